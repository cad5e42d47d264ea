/- The law: names that came out are the caller's. -/
import Derived.Test.YtcphhbofjkenaaaGreatDoorM40

namespace Go.Proofs.YtcphhbofjkenaaaGreatDoor
open Go Go.RowKit
set_option linter.unusedVariables false
set_option linter.unusedSimpArgs false

theorem Tryz.infoStrs : (Tryz.prog.info? 71).map (fun i => (i.zero, i.size, i.bytes)) = some (some (.slice none 0 0), 1, 24) := by kernel_rfl

theorem pats_one (x : Value) (h : x.oneCell' = true) (n : Nat) : ∀ u ∈ pats [x] n, u.oneCell' = true := by
  intro u hu
  unfold pats at hu
  rw [List.mem_flatMap] at hu
  obtain ⟨_, _, hu⟩ := hu
  simp at hu
  rw [hu]; exact h
theorem pats_all (x : Value) (n : Nat) (ys : List Value) (hl : ys.length = n) (h : ∀ j, j < n → ys[j]? = some x) : ys = pats [x] n := by
  apply List.ext_getElem?
  intro j
  by_cases hj : j < n
  · rw [h j hj, pats_get [x] (by simp) n j (by simpa using hj), List.length_singleton, Nat.mod_one]
    rfl
  · rw [List.getElem?_eq_none (by omega), List.getElem?_eq_none (by rw [pats_len]; simp; omega)]
theorem pats_news (W : World) (x : Value) (t : TypeId) (m : Nat) (cs : Array Value) (h : cs.toList = pats [x] m) : ∀ j u, (pats [x] m)[j]? = some u → (W.alloc (.cells cs t (0, 0))).cell? ((Addr.mk W.heap.size 0 none).add j) = some u := by
  rw [← h]; exact World.news_of_block (fr := (0, 0)) (heap_alloc_new W _)

/-- A list of one text again and again. -/
abbrev Marked (B : Nat) (w : World) (u : Value) (q : Nat) : Prop := MarkedJ 0 B w u q

/-- The names' own row while it grows. -/
structure NS (B : Nat) (w0 w : World) (wb : Nat) (lv nv iv pv ev : Value) (nvv : Value) (gs : List Value) : Prop where
  blk : Blk w wb (lwC lv nvv iv pv ev) 84
  row : w.ownsRow B 71 1 nvv gs.length gs
  frm : Chg (fun b => b = wb ∨ nv.ownBlock = some b) w0 w
  loc : Lc w0 nv nvv
  le : w0.heap.size ≤ w.heap.size
  bas : B ≤ w0.heap.size

theorem NS.step {B : Nat} {w0 w w2 : World} {wb : Nat} {lv nv iv pv ev nvv u : Value} {gs : List Value} {o : Obj} {g n cap : Nat} (h : NS B w0 w wb lv nv iv pv ev nvv gs) (hn : n = gs.length)
    (hr : w2.ownsRow B 71 1 (.slice (some ⟨g, 0, none⟩) (n + 1) cap) (n + 1) (gs ++ [u])) (hg : (w.alloc o).grownBy w2 nvv.ownBlock) (hat : nvv.ownBlock = some g ∨ g = w.heap.size + 1) :
    NS B w0 (w2.setCell ⟨wb, 1, none⟩ (.slice (some ⟨g, 0, none⟩) (n + 1) cap)) wb lv nv iv pv ev (.slice (some ⟨g, 0, none⟩) (n + 1) cap) (gs ++ [u]) := by
  subst hn
  have hcg : Chg (fun k => nvv.ownBlock = some k) w w2 := ((Chg.refl _ w).alloc o).trans ((Chg.ofGrown hg).mono (fun k _ e => e.symm))
  have hnw : nvv.ownBlock ≠ some wb := own_blk h.row h.blk (by decide)
  have hb2 : Blk w2 wb (lwC lv nvv iv pv ev) 84 := h.blk.chg hcg hnw
  have hne : (Value.slice (some ⟨g, 0, none⟩) (gs.length + 1) cap).ownBlock ≠ some wb := own_blk hr hb2 (by decide)
  have hset : Chg (fun b => b = wb) w2 (w2.setCell ⟨wb, 1, none⟩ (.slice (some ⟨g, 0, none⟩) (gs.length + 1) cap)) := (Chg.refl (fun b => b = wb) w2).setCell (p := ⟨wb, 1, none⟩) rfl _
  refine ⟨?_, ?_, ?_, ?_, ?_, h.bas⟩
  · have := hb2.set (o := 1) (.slice (some ⟨g, 0, none⟩) (gs.length + 1) cap)
    simpa [lwC] using this
  · rw [List.length_append, List.length_singleton]
    exact ownsRow_chg hr hset (fun k hk e => hne (by rw [hk, e]))
  · exact (h.frm.thru hcg (fun k hk e => Or.inr ((h.loc k e).elim id (fun e => by omega)))).trans (hset.mono (fun k _ e => Or.inl e))
  · intro k hk
    simp only [Value.ownBlock, Option.some.injEq] at hk
    subst hk
    rcases hat with e | e
    · exact h.loc _ e
    · right; have := h.le; omega
  · exact Nat.le_trans h.le (Nat.le_trans hcg.size hset.size)

set_option maxRecDepth 100000 in
set_option maxHeartbeats 8000000 in
theorem law_keepsNames (B : Nat) (w : World) (wb : Nat) (lv nv iv pv ev : Value) (gs : List Value) (lg n : Nat) (xs : List Value) (hb : Blk w wb (lwC lv nv iv pv ev) 84) (hrow : w.ownsRow B 71 1 nv gs.length gs)
    (hlen : gs.length ≤ 100000000) (hn : n ≤ 40) (hB : B ≤ w.heap.size) (hl : w.ownsRow B 9 1 (.slice (some ⟨lg, 0, none⟩) n n) n xs) :
    Calls Tryz.prog 92 #[.pointer (some ⟨wb, 1, none⟩), .slice (some ⟨lg, 0, none⟩) n n] w fun e w' => e = .returned (.tuple #[]) ∧ ∃ nv' u1 u2 u3, Blk w' wb (lwC lv nv' iv pv ev) 84 ∧ w'.ownsRow B 71 1 nv' (gs.length + 4) (gs ++ [.slice (some ⟨lg, 0, none⟩) n n, u1, u2, u3]) ∧
      Marked B w' (.slice (some ⟨lg, 0, none⟩) n n) (gs.length / 4) ∧ Marked B w' u1 (gs.length / 4) ∧ Marked B w' u2 (gs.length / 4) ∧ Marked B w' u3 (gs.length / 4) ∧
      (∀ u, (u = u1 ∨ u = u2 ∨ u = u3) → ∀ k, u.ownBlock = some k → k = lg ∨ w.heap.size ≤ k) ∧ Lc w nv nv' ∧ Chg (fun b => b = wb ∨ b = lg ∨ nv.ownBlock = some b) w w' := by
  obtain ⟨nad, ncap, hnv, hncap, _⟩ := row_shape hrow
  subst hnv
  have c1 : w.cell? ⟨wb, 1, none⟩ = some (.slice nad gs.length ncap) := hb.cell 1 _ rfl
  have hwl : wb ≠ lg := by
    intro e
    exact own_blk hl hb (by decide) (by rw [e]; rfl)
  have hnl : (Value.slice nad gs.length ncap).ownBlock ≠ some lg := by
    intro e
    exact own_own hrow hl (by decide) e rfl
  have hnw : (Value.slice nad gs.length ncap).ownBlock ≠ some wb := own_blk hrow hb (by decide)
  have HMK := hidden (law_mark gs.length w (by omega))
  obtain ⟨m, hm⟩ : ∃ m, m = markS (gs.length / 4) := ⟨_, rfl⟩
  have hwlt := hb.lt
  rw [← hm] at HMK
  have HB := hidden hb; have HR := hidden hrow; have HL := hidden hl; have HM := hidden hm
  clear hb hrow hl hm
  go_enter Tryz.func92, Tryz.ntmps92
  go_wp2_with fail
  refine HMK.out.mono ?_
  rintro e w1 ⟨rfl, h1⟩
  have hl1 := ownsRow_chg HL.out (Chg.ofBelow (S := fun _ => False) h1) (fun _ _ => id)
  have HL1 := hidden hl1; have H1 := hidden h1
  clear HMK h1 hl1 c1
  go_wp2_with fail
  go_loopw [5] (fun i wr => ∃ (k : Nat) (ys : List Value), k ≤ n ∧ i = .int .i64 k ∧ Hid (wr.ownsRow B 9 1 (.slice (some ⟨lg, 0, none⟩) n n) n ys ∧ ∀ j, j < k → ys[j]? = some (.string m)) ∧ Hid (Chg (fun b => b = lg) w wr)) (fun i _ => n - (intOf i).toNat)
  case atStart => exact ⟨0, xs, Nat.zero_le _, rfl, hidden ⟨HL1.out, fun j h => by omega⟩, hidden (Chg.ofBelow H1.out)⟩
  case round =>
    clear HL1 H1
    obtain ⟨k, ys, hk, rfl, HY, HC⟩ := hrel
    by_cases hlt : k < n
    · have hli : (k : Int) < (n : Int) := by omega
      have hl0 : (0 : Int) ≤ (k : Int) := by omega
      obtain ⟨x, hx⟩ : ∃ x, ys[k]? = some x := ⟨_, List.getElem?_eq_getElem (by have := HY.out.1.1; omega)⟩
      have hcx : wr.cell? ⟨lg, k, none⟩ = some x := by
        obtain ⟨g, cap, hv, _, _, _, _, hc⟩ := row_cells HY.out.1 (by omega)
        obtain ⟨rfl, rfl⟩ : lg = g ∧ n = cap := by simpa using hv
        exact hc k x hx
      have hfx : wr.frozen? ⟨lg, k, none⟩ = false := by
        rcases HY.out.1.2 with ⟨h0, _⟩ | ⟨g, cap, cur, hv, _, hh, _⟩
        · cases h0
        · obtain ⟨rfl, rfl⟩ : lg = g ∧ n = cap := by simpa using hv
          simp [World.frozen?, hh]
      clear hx
      go_wp2_with fail
      go_roundw
      case rel =>
        refine ⟨k + 1, ys.set k (.string m), by omega, by go_num, hidden ⟨ownsRow_set HY.out.1 k _, fun j hj => ?_⟩, hidden (HC.out.setCell (p := ⟨lg, k, none⟩) rfl _)⟩
        by_cases e : j = k
        · subst e
          rw [List.getElem?_set_self (by have := HY.out.1.1; omega)]
        · rw [List.getElem?_set_ne (Ne.symm e)]; exact HY.out.2 j (by omega)
      case measure => simp [intOf]; omega
    · obtain rfl : k = n := by omega
      have hys := pats_all (.string m) k ys (by have := HY.out.1.1; omega) HY.out.2
      have hown : wr.ownsRow B 9 1 (.slice (some ⟨lg, 0, none⟩) k k) k (pats [.string m] k) := by rw [← hys]; exact HY.out.1
      have HO := hidden hown
      clear hys hown HY
      obtain ⟨i0, hi, hz0, hz1, hz2⟩ := info_parts Tryz.infoStr
      have HI := hidden (And.intro hi (And.intro hz0 (And.intro hz1 hz2)))
      have hBr : B ≤ wr.heap.size := Nat.le_trans hB HC.out.size
      have HP1 := hidden (pats_one (.string m) rfl 1); have HP2 := hidden (pats_one (.string m) rfl 2); have HP3 := hidden (pats_one (.string m) rfl 3)
      have HX1 := hidden (HO.out.alloc (.cells #[.string m] 9 (0, 0)))
      have HN1 := hidden (pats_news wr (.string m) 9 1 #[.string m] rfl)
      have HB1 := hidden (show B ≤ (wr.alloc (.cells #[.string m] 9 (0, 0))).heap.size by simp; omega)
      have HQ1 := hidden (And.intro (show k + 1 ≤ maxLen by unfold maxLen; omega) (And.intro (show k + 2 ≤ maxLen by unfold maxLen; omega) (show k + 3 ≤ maxLen by unfold maxLen; omega)))
      have HQ2 := hidden (And.intro (show (k + 1) * 16 ≤ 140737488355328 by omega) (And.intro (show (k + 2) * 16 ≤ 140737488355328 by omega) (show (k + 3) * 16 ≤ 140737488355328 by omega)))
      clear hi hz0 hz1 hz2
      go_wp2_with (at_builtin; refine wpList_append_pats _ rfl _ _ 71 rfl B 9 i0 (.string ByteArray.empty) 1 16 Tryz.underlying71 HI.out.1 HI.out.2.1 HI.out.2.2.1 HI.out.2.2.2 rfl (by decide) [.string m] rfl (.slice (some ⟨lg, 0, none⟩) k k) k rfl HX1.out ⟨wr.heap.size, 0, none⟩ 1 1 rfl HN1.out HP1.out HQ1.out.1 HQ2.out.1 HB1.out ?_)
      intro v1 w2 ho1 hg1 hat1 hkp1
      obtain ⟨a1, c1, hv1, _, _⟩ := row_shape ho1
      subst hv1
      have hc1 : Chg (fun b => b = lg) w w2 := (HC.out.alloc _).trans ((Chg.ofGrown hg1).mono (fun b _ e => by simpa [Value.ownBlock] using e))
      have hl1 := hkp1 _ _ _ HX1.out
      have hat1' : ∀ b, (Value.slice a1 (k + 1) c1).ownBlock = some b → b = lg ∨ w.heap.size ≤ b := fun b hb => by
        rcases hat1 with e | e
        · rw [e] at hb; left; simpa [Value.ownBlock] using hb.symm
        · rw [e] at hb; right; have := HC.out.size; simp at hb; omega
      have HO1 := hidden ho1; have HC1 := hidden hc1; have HL1 := hidden hl1; have HA1 := hidden hat1'
      have hB2 : B ≤ w2.heap.size := Nat.le_trans hB hc1.size
      clear ho1 hg1 hat1 hkp1 hc1 hl1 hat1' HX1 HN1 HB1 HO
      have HX2 := hidden (HL1.out.alloc (.cells #[.string m, .string m] 9 (0, 0)))
      have HY2 := hidden (HO1.out.alloc (.cells #[.string m, .string m] 9 (0, 0)))
      have HN2 := hidden (pats_news w2 (.string m) 9 2 #[.string m, .string m] rfl)
      have HB2 := hidden (show B ≤ (w2.alloc (.cells #[.string m, .string m] 9 (0, 0))).heap.size by simp; omega)
      go_wp2_with (at_builtin; refine wpList_append_pats _ rfl _ _ 71 rfl B 9 i0 (.string ByteArray.empty) 1 16 Tryz.underlying71 HI.out.1 HI.out.2.1 HI.out.2.2.1 HI.out.2.2.2 rfl (by decide) [.string m] rfl (.slice (some ⟨lg, 0, none⟩) k k) k rfl HX2.out ⟨w2.heap.size, 0, none⟩ 2 2 rfl HN2.out HP2.out HQ1.out.2.1 HQ2.out.2.1 HB2.out ?_)
      intro v2 w3 ho2 hg2 hat2 hkp2
      obtain ⟨a2, c2, hv2, _, _⟩ := row_shape ho2
      subst hv2
      have hc2 : Chg (fun b => b = lg) w w3 := (HC1.out.alloc _).trans ((Chg.ofGrown hg2).mono (fun b _ e => by simpa [Value.ownBlock] using e))
      have hat2' : ∀ b, (Value.slice a2 (k + 2) c2).ownBlock = some b → b = lg ∨ w.heap.size ≤ b := fun b hb => by
        rcases hat2 with e | e
        · rw [e] at hb; left; simpa [Value.ownBlock] using hb.symm
        · rw [e] at hb; right; have := HC1.out.size; simp at hb; omega
      have hl2 := hkp2 _ _ _ HX2.out
      have hm2 := hkp2 _ _ _ HY2.out
      have HO2 := hidden ho2; have HC2 := hidden hc2; have HL2 := hidden hl2; have HM2 := hidden hm2; have HA2 := hidden hat2'
      have hB3 : B ≤ w3.heap.size := Nat.le_trans hB hc2.size
      clear ho2 hg2 hat2 hkp2 hc2 hl2 hm2 hat2' HX2 HY2 HN2 HB2 HO1 HL1 HC1
      have HX3 := hidden (HL2.out.alloc (.cells #[.string m, .string m, .string m] 9 (0, 0)))
      have HY3 := hidden (HM2.out.alloc (.cells #[.string m, .string m, .string m] 9 (0, 0)))
      have HZ3 := hidden (HO2.out.alloc (.cells #[.string m, .string m, .string m] 9 (0, 0)))
      have HN3 := hidden (pats_news w3 (.string m) 9 3 #[.string m, .string m, .string m] rfl)
      have HB3 := hidden (show B ≤ (w3.alloc (.cells #[.string m, .string m, .string m] 9 (0, 0))).heap.size by simp; omega)
      go_wp2_with (at_builtin; refine wpList_append_pats _ rfl _ _ 71 rfl B 9 i0 (.string ByteArray.empty) 1 16 Tryz.underlying71 HI.out.1 HI.out.2.1 HI.out.2.2.1 HI.out.2.2.2 rfl (by decide) [.string m] rfl (.slice (some ⟨lg, 0, none⟩) k k) k rfl HX3.out ⟨w3.heap.size, 0, none⟩ 3 3 rfl HN3.out HP3.out HQ1.out.2.2 HQ2.out.2.2 HB3.out ?_)
      intro v3 w4 ho3 hg3 hat3 hkp3
      obtain ⟨a3, c3, hv3, _, _⟩ := row_shape ho3
      subst hv3
      have hc3 : Chg (fun b => b = lg) w w4 := (HC2.out.alloc _).trans ((Chg.ofGrown hg3).mono (fun b _ e => by simpa [Value.ownBlock] using e))
      have hat3' : ∀ b, (Value.slice a3 (k + 3) c3).ownBlock = some b → b = lg ∨ w.heap.size ≤ b := fun b hb => by
        rcases hat3 with e | e
        · rw [e] at hb; left; simpa [Value.ownBlock] using hb.symm
        · rw [e] at hb; right; have := HC2.out.size; simp at hb; omega
      have hq := HM.out
      have M0 : Marked B w4 (.slice (some ⟨lg, 0, none⟩) k k) (gs.length / 4) := ⟨k, by omega, by show w4.ownsRow B 9 1 _ _ (pats [.string (markS (gs.length / 4))] _); rw [← hq]; exact hkp3 _ _ _ HX3.out⟩
      have M1 : Marked B w4 (.slice a1 (k + 1) c1) (gs.length / 4) := ⟨k + 1, by omega, by show w4.ownsRow B 9 1 _ _ (pats [.string (markS (gs.length / 4))] _); rw [← hq]; exact hkp3 _ _ _ HY3.out⟩
      have M2 : Marked B w4 (.slice a2 (k + 2) c2) (gs.length / 4) := ⟨k + 2, by omega, by show w4.ownsRow B 9 1 _ _ (pats [.string (markS (gs.length / 4))] _); rw [← hq]; exact hkp3 _ _ _ HZ3.out⟩
      have M3 : Marked B w4 (.slice a3 (k + 3) c3) (gs.length / 4) := ⟨k + 3, by omega, by show w4.ownsRow B 9 1 _ _ (pats [.string (markS (gs.length / 4))] _); rw [← hq]; exact ho3⟩
      have HMM := hidden (And.intro M0 (And.intro M1 (And.intro M2 M3))); have HC3 := hidden hc3; have HA3 := hidden hat3'
      clear ho3 hg3 hat3 hkp3 hc3 hat3' HX3 HY3 HZ3 HN3 HB3 HO2 HL2 HM2 HC2 hq M0 M1 M2 M3
      have hrow4 := ownsRow_chg HR.out HC3.out (fun b hb e => hnl (by rw [hb, e]))
      have hblk4 := HB.out.chg HC3.out hwl
      have HR4 := hidden hrow4; have HB4 := hidden hblk4
      have c4 : w4.cell? ⟨wb, 1, none⟩ = some (.slice nad gs.length ncap) := hblk4.cell 1 _ rfl
      have f4 := hblk4.frozen 1
      clear hrow4 hblk4
      obtain ⟨j0, hj, hy0, hy1, hy2⟩ := info_parts Tryz.infoStrs
      have HJ := hidden (And.intro hj (And.intro hy0 (And.intro hy1 hy2)))
      have hB4 : B ≤ w4.heap.size := Nat.le_trans hB HC3.out.size
      have hN4 : NS B w4 w4 wb lv (.slice nad gs.length ncap) iv pv ev (.slice nad gs.length ncap) gs := ⟨HB4.out, HR4.out, Chg.refl _ _, Lc.refl _ _, Nat.le_refl _, hB4⟩
      have HNS := hidden hN4
      have HE1 := hidden (fun (a : Option Addr) (x y : Nat) => (show ∀ u ∈ [Value.slice a x y], u.oneCell' = true by intro u hu; simp at hu; rw [hu]; rfl))
      have HLE := hidden (show gs.length ≤ 100000000 from hlen)
      clear hj hy0 hy1 hy2 hN4 HB4 HR4
      have HW0 := hidden (HNS.out.row.alloc (.cells #[Value.slice (some ⟨lg, 0, none⟩) k k] 71 (0, 0)))
      have HV0 := hidden (newsA w4 #[Value.slice (some ⟨lg, 0, none⟩) k k] 71)
      have HU0 := hidden (show gs.length + 1 ≤ maxLen by unfold maxLen; omega)
      have HT0 := hidden (show (gs.length + 1) * 24 ≤ 140737488355328 by omega)
      have HS0 := hidden (show B ≤ (World.alloc w4 (.cells #[Value.slice (some ⟨lg, 0, none⟩) k k] 71 (0, 0))).heap.size by have := HNS.out.le; simp; omega)
      have HH0 := hidden (show (World.alloc w4 (.cells #[Value.slice (some ⟨lg, 0, none⟩) k k] 71 (0, 0))).heap.size = w4.heap.size + 1 by simp)
      go_wp2_with (at_builtin; refine wpList_append_lies _ rfl _ _ 77 rfl B 71 j0 (.slice none 0 0) 1 24 Tryz.underlying77 HJ.out.1 HJ.out.2.1 HJ.out.2.2.1 HJ.out.2.2.2 rfl (by decide) (Value.slice nad gs.length ncap) (gs.length) gs rfl HW0.out ⟨w4.heap.size, 0, none⟩ 1 1 [Value.slice (some ⟨lg, 0, none⟩) k k] rfl rfl HV0.out (HE1.out _ _ _) (by decide) HU0.out HT0.out HS0.out (w4.heap.size + 1) HH0.out ?_)
      intro g0 cap0 y0 hr0 hg0 hat0 hlt0
      have hns0 := HNS.out.step (u := Value.slice (some ⟨lg, 0, none⟩) k k) (n := gs.length) rfl hr0 hg0 hat0
      have hbl0 : Blk y0 wb (lwC lv (Value.slice nad gs.length ncap) iv pv ev) 84 := (HNS.out.blk.alloc (.cells #[Value.slice (some ⟨lg, 0, none⟩) k k] 71 (0, 0))).chg (Chg.ofGrown hg0) (fun e => own_blk HNS.out.row HNS.out.blk (by decide) e.symm)
      have q0 : y0.cell? ⟨wb, 1, none⟩ = some (Value.slice nad gs.length ncap) := hbl0.cell 1 _ rfl
      have r0 := hbl0.frozen 1
      obtain ⟨z0, hz0⟩ : ∃ z : World, z = y0.setCell ⟨wb, 1, none⟩ (.slice (some ⟨g0, 0, none⟩) (gs.length + 1) cap0) := ⟨_, rfl⟩
      obtain ⟨G0, hG0⟩ : ∃ G : List Value, G = gs ++ [Value.slice (some ⟨lg, 0, none⟩) k k] := ⟨_, rfl⟩
      rw [← hz0, ← hG0] at hns0
      have HL0 : Hid (G0.length = gs.length + 1) := by show G0.length = _; rw [hG0, List.length_append, List.length_singleton]
      have HN0 := hidden hns0; have HG0 := hidden hG0
      have p0 : z0.cell? ⟨wb, 1, none⟩ = some (.slice (some ⟨g0, 0, none⟩) (gs.length + 1) cap0) := hns0.blk.cell 1 _ rfl
      have s0 := hns0.blk.frozen 1
      clear hr0 hg0 hat0 hlt0 hns0 hbl0 hG0 HW0 HV0 HU0 HT0 HS0 HH0 c4 f4
      go_upto_region 9 with fail
      rw [← hz0]
      clear q0 r0 hz0
      have HW1 := hidden (show (World.alloc z0 (.cells #[Value.slice a1 (k + 1) c1] 71 (0, 0))).ownsRow B 71 1 (Value.slice (some ⟨g0, 0, none⟩) (gs.length + 1) cap0) (gs.length + 1) G0 by have h := HN0.out.row; rw [HL0.out] at h; exact h.alloc _)
      have HV1 := hidden (newsA z0 #[Value.slice a1 (k + 1) c1] 71)
      have HU1 := hidden (show gs.length + 1 + 1 ≤ maxLen by unfold maxLen; omega)
      have HT1 := hidden (show (gs.length + 1 + 1) * 24 ≤ 140737488355328 by omega)
      have HS1 := hidden (show B ≤ (World.alloc z0 (.cells #[Value.slice a1 (k + 1) c1] 71 (0, 0))).heap.size by have := HN0.out.le; simp; omega)
      have HH1 := hidden (show (World.alloc z0 (.cells #[Value.slice a1 (k + 1) c1] 71 (0, 0))).heap.size = z0.heap.size + 1 by simp)
      go_wp2_with (at_builtin; refine wpList_append_lies _ rfl _ _ 77 rfl B 71 j0 (.slice none 0 0) 1 24 Tryz.underlying77 HJ.out.1 HJ.out.2.1 HJ.out.2.2.1 HJ.out.2.2.2 rfl (by decide) (Value.slice (some ⟨g0, 0, none⟩) (gs.length + 1) cap0) (gs.length + 1) G0 rfl HW1.out ⟨z0.heap.size, 0, none⟩ 1 1 [Value.slice a1 (k + 1) c1] rfl rfl HV1.out (HE1.out _ _ _) (by decide) HU1.out HT1.out HS1.out (z0.heap.size + 1) HH1.out ?_)
      intro g1 cap1 y1 hr1 hg1 hat1 hlt1
      have hns1 := HN0.out.step (u := Value.slice a1 (k + 1) c1) (n := gs.length + 1) HL0.out.symm hr1 hg1 hat1
      have hbl1 : Blk y1 wb (lwC lv (Value.slice (some ⟨g0, 0, none⟩) (gs.length + 1) cap0) iv pv ev) 84 := (HN0.out.blk.alloc (.cells #[Value.slice a1 (k + 1) c1] 71 (0, 0))).chg (Chg.ofGrown hg1) (fun e => own_blk HN0.out.row HN0.out.blk (by decide) e.symm)
      have q1 : y1.cell? ⟨wb, 1, none⟩ = some (Value.slice (some ⟨g0, 0, none⟩) (gs.length + 1) cap0) := hbl1.cell 1 _ rfl
      have r1 := hbl1.frozen 1
      obtain ⟨z1, hz1⟩ : ∃ z : World, z = y1.setCell ⟨wb, 1, none⟩ (.slice (some ⟨g1, 0, none⟩) (gs.length + 1 + 1) cap1) := ⟨_, rfl⟩
      obtain ⟨G1, hG1⟩ : ∃ G : List Value, G = G0 ++ [Value.slice a1 (k + 1) c1] := ⟨_, rfl⟩
      rw [← hz1, ← hG1] at hns1
      have HL1 : Hid (G1.length = gs.length + 1 + 1) := by show G1.length = _; rw [hG1, List.length_append, List.length_singleton, HL0.out]
      have HN1 := hidden hns1; have HG1 := hidden hG1
      have p1 : z1.cell? ⟨wb, 1, none⟩ = some (.slice (some ⟨g1, 0, none⟩) (gs.length + 1 + 1) cap1) := hns1.blk.cell 1 _ rfl
      have s1 := hns1.blk.frozen 1
      clear hr1 hg1 hat1 hlt1 hns1 hbl1 hG1 HW1 HV1 HU1 HT1 HS1 HH1 p0 s0
      go_upto_region 10 with fail
      rw [← hz1]
      clear q1 r1 hz1
      have HW2 := hidden (show (World.alloc z1 (.cells #[Value.slice a2 (k + 2) c2] 71 (0, 0))).ownsRow B 71 1 (Value.slice (some ⟨g1, 0, none⟩) (gs.length + 1 + 1) cap1) (gs.length + 1 + 1) G1 by have h := HN1.out.row; rw [HL1.out] at h; exact h.alloc _)
      have HV2 := hidden (newsA z1 #[Value.slice a2 (k + 2) c2] 71)
      have HU2 := hidden (show gs.length + 1 + 1 + 1 ≤ maxLen by unfold maxLen; omega)
      have HT2 := hidden (show (gs.length + 1 + 1 + 1) * 24 ≤ 140737488355328 by omega)
      have HS2 := hidden (show B ≤ (World.alloc z1 (.cells #[Value.slice a2 (k + 2) c2] 71 (0, 0))).heap.size by have := HN1.out.le; simp; omega)
      have HH2 := hidden (show (World.alloc z1 (.cells #[Value.slice a2 (k + 2) c2] 71 (0, 0))).heap.size = z1.heap.size + 1 by simp)
      go_wp2_with (at_builtin; refine wpList_append_lies _ rfl _ _ 77 rfl B 71 j0 (.slice none 0 0) 1 24 Tryz.underlying77 HJ.out.1 HJ.out.2.1 HJ.out.2.2.1 HJ.out.2.2.2 rfl (by decide) (Value.slice (some ⟨g1, 0, none⟩) (gs.length + 1 + 1) cap1) (gs.length + 1 + 1) G1 rfl HW2.out ⟨z1.heap.size, 0, none⟩ 1 1 [Value.slice a2 (k + 2) c2] rfl rfl HV2.out (HE1.out _ _ _) (by decide) HU2.out HT2.out HS2.out (z1.heap.size + 1) HH2.out ?_)
      intro g2 cap2 y2 hr2 hg2 hat2 hlt2
      have hns2 := HN1.out.step (u := Value.slice a2 (k + 2) c2) (n := gs.length + 1 + 1) HL1.out.symm hr2 hg2 hat2
      have hbl2 : Blk y2 wb (lwC lv (Value.slice (some ⟨g1, 0, none⟩) (gs.length + 1 + 1) cap1) iv pv ev) 84 := (HN1.out.blk.alloc (.cells #[Value.slice a2 (k + 2) c2] 71 (0, 0))).chg (Chg.ofGrown hg2) (fun e => own_blk HN1.out.row HN1.out.blk (by decide) e.symm)
      have q2 : y2.cell? ⟨wb, 1, none⟩ = some (Value.slice (some ⟨g1, 0, none⟩) (gs.length + 1 + 1) cap1) := hbl2.cell 1 _ rfl
      have r2 := hbl2.frozen 1
      obtain ⟨z2, hz2⟩ : ∃ z : World, z = y2.setCell ⟨wb, 1, none⟩ (.slice (some ⟨g2, 0, none⟩) (gs.length + 1 + 1 + 1) cap2) := ⟨_, rfl⟩
      obtain ⟨G2, hG2⟩ : ∃ G : List Value, G = G1 ++ [Value.slice a2 (k + 2) c2] := ⟨_, rfl⟩
      rw [← hz2, ← hG2] at hns2
      have HL2 : Hid (G2.length = gs.length + 1 + 1 + 1) := by show G2.length = _; rw [hG2, List.length_append, List.length_singleton, HL1.out]
      have HN2 := hidden hns2; have HG2 := hidden hG2
      have p2 : z2.cell? ⟨wb, 1, none⟩ = some (.slice (some ⟨g2, 0, none⟩) (gs.length + 1 + 1 + 1) cap2) := hns2.blk.cell 1 _ rfl
      have s2 := hns2.blk.frozen 1
      clear hr2 hg2 hat2 hlt2 hns2 hbl2 hG2 HW2 HV2 HU2 HT2 HS2 HH2 p1 s1
      go_upto_region 11 with fail
      rw [← hz2]
      clear q2 r2 hz2
      have HW3 := hidden (show (World.alloc z2 (.cells #[Value.slice a3 (k + 3) c3] 71 (0, 0))).ownsRow B 71 1 (Value.slice (some ⟨g2, 0, none⟩) (gs.length + 1 + 1 + 1) cap2) (gs.length + 1 + 1 + 1) G2 by have h := HN2.out.row; rw [HL2.out] at h; exact h.alloc _)
      have HV3 := hidden (newsA z2 #[Value.slice a3 (k + 3) c3] 71)
      have HU3 := hidden (show gs.length + 1 + 1 + 1 + 1 ≤ maxLen by unfold maxLen; omega)
      have HT3 := hidden (show (gs.length + 1 + 1 + 1 + 1) * 24 ≤ 140737488355328 by omega)
      have HS3 := hidden (show B ≤ (World.alloc z2 (.cells #[Value.slice a3 (k + 3) c3] 71 (0, 0))).heap.size by have := HN2.out.le; simp; omega)
      have HH3 := hidden (show (World.alloc z2 (.cells #[Value.slice a3 (k + 3) c3] 71 (0, 0))).heap.size = z2.heap.size + 1 by simp)
      go_wp2_with (at_builtin; refine wpList_append_lies _ rfl _ _ 77 rfl B 71 j0 (.slice none 0 0) 1 24 Tryz.underlying77 HJ.out.1 HJ.out.2.1 HJ.out.2.2.1 HJ.out.2.2.2 rfl (by decide) (Value.slice (some ⟨g2, 0, none⟩) (gs.length + 1 + 1 + 1) cap2) (gs.length + 1 + 1 + 1) G2 rfl HW3.out ⟨z2.heap.size, 0, none⟩ 1 1 [Value.slice a3 (k + 3) c3] rfl rfl HV3.out (HE1.out _ _ _) (by decide) HU3.out HT3.out HS3.out (z2.heap.size + 1) HH3.out ?_)
      intro g3 cap3 y3 hr3 hg3 hat3 hlt3
      have hns3 := HN2.out.step (u := Value.slice a3 (k + 3) c3) (n := gs.length + 1 + 1 + 1) HL2.out.symm hr3 hg3 hat3
      have hbl3 : Blk y3 wb (lwC lv (Value.slice (some ⟨g2, 0, none⟩) (gs.length + 1 + 1 + 1) cap2) iv pv ev) 84 := (HN2.out.blk.alloc (.cells #[Value.slice a3 (k + 3) c3] 71 (0, 0))).chg (Chg.ofGrown hg3) (fun e => own_blk HN2.out.row HN2.out.blk (by decide) e.symm)
      have q3 : y3.cell? ⟨wb, 1, none⟩ = some (Value.slice (some ⟨g2, 0, none⟩) (gs.length + 1 + 1 + 1) cap2) := hbl3.cell 1 _ rfl
      have r3 := hbl3.frozen 1
      obtain ⟨z3, hz3⟩ : ∃ z : World, z = y3.setCell ⟨wb, 1, none⟩ (.slice (some ⟨g3, 0, none⟩) (gs.length + 1 + 1 + 1 + 1) cap3) := ⟨_, rfl⟩
      obtain ⟨G3, hG3⟩ : ∃ G : List Value, G = G2 ++ [Value.slice a3 (k + 3) c3] := ⟨_, rfl⟩
      rw [← hz3, ← hG3] at hns3
      have HL3 : Hid (G3.length = gs.length + 1 + 1 + 1 + 1) := by show G3.length = _; rw [hG3, List.length_append, List.length_singleton, HL2.out]
      have HN3 := hidden hns3; have HG3 := hidden hG3
      have p3 : z3.cell? ⟨wb, 1, none⟩ = some (.slice (some ⟨g3, 0, none⟩) (gs.length + 1 + 1 + 1 + 1) cap3) := hns3.blk.cell 1 _ rfl
      have s3 := hns3.blk.frozen 1
      clear hr3 hg3 hat3 hlt3 hns3 hbl3 hG3 HW3 HV3 HU3 HT3 HS3 HH3 p2 s2
      go_wp2_with fail
      rw [← hz3]
      clear q3 r3 hz3 p3 s3
      go_end0
      have hF := HN3.out
      obtain ⟨M0, M1, M2, M3⟩ := HMM.out
      have tn : ∀ (u : Value) (q : Nat), Marked B w4 u q → Marked B z3 u q := fun u q hM => hM.chg hF.frm (fun b hb e => by
        obtain ⟨kk, _, hr⟩ := hM
        rcases e with e | e
        · subst e; exact own_blk hr (HB.out.chg HC3.out hwl) (by decide) hb
        · exact own_own hr (ownsRow_chg HR.out HC3.out (fun b hb e => hnl (by rw [hb, e]))) (by decide) hb e)
      refine ⟨rfl, _, .slice a1 (k + 1) c1, .slice a2 (k + 2) c2, .slice a3 (k + 3) c3, hF.blk, ?_, tn _ _ M0, tn _ _ M1, tn _ _ M2, tn _ _ M3, ?_, ?_, ?_⟩
      · have h := hF.row
        rw [HL3.out, HG3.out, HG2.out, HG1.out, HG0.out] at h
        simpa using h
      · rintro u (rfl | rfl | rfl)
        · exact HA1.out
        · exact HA2.out
        · exact HA3.out
      · exact hF.loc.mono HC3.out.size
      · exact (HC3.out.mono (fun b _ e => Or.inr (Or.inl e))).trans (hF.frm.mono (fun b _ e => e.imp id Or.inr))

/-- Names that came out. -/
theorem law_keeps0 (B : Nat) (w : World) (wb : Nat) (lv : Value) (bk : B4) (gs : List Value) (lg n : Nat) (xs : List Value) (hb : Blk w wb (lwB lv bk) 84) (hrow : w.ownsRow B 71 1 bk.n gs.length gs)
    (hlen : gs.length ≤ 100000000) (hn : n ≤ 40) (hB : B ≤ w.heap.size) (hl : w.ownsRow B 9 1 (.slice (some ⟨lg, 0, none⟩) n n) n xs) :
    Calls Tryz.prog 92 #[.pointer (some ⟨wb, 1, none⟩), .slice (some ⟨lg, 0, none⟩) n n] w (KeepPost 0 B w wb lv bk gs (.slice (some ⟨lg, 0, none⟩) n n)) := by
  refine (law_keepsNames B w wb lv bk.n bk.i bk.p bk.e gs lg n xs hb hrow hlen hn hB hl).mono ?_
  rintro e w' ⟨he, nv', u1, u2, u3, h1, h2, h3, h4, h5, h6, h7, h8, h9⟩
  refine ⟨he, nv', u1, u2, u3, h1, h2, h3, h4, h5, h6, fun u hu k hk => (h7 u hu k hk).imp (fun e => by rw [e]; rfl) id, h8, h9.mono (fun b _ e => e.imp id (fun e => e.imp (fun e => by rw [e]; rfl) id))⟩

end Go.Proofs.YtcphhbofjkenaaaGreatDoor
