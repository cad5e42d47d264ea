/- The document's answer: a variable's definition. -/
import Derived.Test.YtcphhbofjkenaaaGreatDoorM09
import Derived.Test.YtcphhbofjkenaaaGreatDoorM17
import Derived.Test.YtcphhbofjkenaaaGreatDoorM36

namespace Go.Proofs.YtcphhbofjkenaaaGreatDoor
open Go Go.RowKit
set_option linter.unusedVariables false
set_option linter.unusedSimpArgs false
attribute [local go_sem] quietG

/-- A word of the document's whose cells are plain. -/
def RW.flat (x : RW) : Prop := ∃ a n c, x.items = .slice a n c
theorem RW.one {x : RW} (h : x.flat) : ∀ u ∈ x.cells, u.oneCell' = true := by
  obtain ⟨a, n, c, h⟩ := h
  intro u hu
  simp only [RW.cells, h, List.mem_cons, List.not_mem_nil, or_false] at hu
  rcases hu with rfl | rfl | rfl | rfl | rfl | rfl | rfl | rfl <;> rfl
def rwz : Value := .agg #[.string ⟨#[]⟩, .int .i64 0, .slice none 0 0, .int .i64 0, .int .i64 0, .int .i64 0, .int .i64 0, .bool false]
theorem Tryz.infoRW : (Tryz.prog.info? 186).map (fun i => (i.zero, i.size, i.bytes)) = some (some rwz, 8, 88) := by kernel_rfl

/-- The document's system with a word more. -/
theorem RefSys.push {w w2 : World} {sb : Nat} {sv v2 : Value} {ws : List RW} {c k : Int} {x : RW} (h : RefSys w sb sv ws c k)
    (hr : w2.ownsRow 0 186 8 v2 (ws.length + 1) (wsCells ws ++ x.cells)) (hc : Chg (fun b => sv.ownBlock = some b) w w2) : RefSys (w2.setCell ⟨sb, 0, none⟩ v2) sb v2 (ws ++ [x]) c k := by
  have hb2 : Blk w2 sb #[sv, .int .i64 c, .int .i64 k] 176 := h.blk.chg hc h.apart
  have hne : v2.ownBlock ≠ some sb := own_blk hr hb2 (by decide)
  refine ⟨?_, ?_, hne⟩
  · have := hb2.set (o := 0) v2
    simpa using this
  · have := ownsRow_chg hr ((Chg.refl (fun b => b = sb) w2).setCell (p := ⟨sb, 0, none⟩) rfl v2) (fun k hk e => hne (by rw [hk, e]))
    simpa [wsCells] using this
theorem RefSys.setC {w : World} {sb : Nat} {sv : Value} {ws : List RW} {c k : Int} (h : RefSys w sb sv ws c k) (x : Int) : RefSys (w.setCell ⟨sb, 1, none⟩ (.int .i64 x)) sb sv ws x k := by
  refine ⟨?_, ownsRow_chg h.row ((Chg.refl (fun b => b = sb) w).setCell (p := ⟨sb, 1, none⟩) rfl _) (fun k hk e => h.apart (by rw [hk, e])), h.apart⟩
  have := h.blk.set (o := 1) (.int .i64 x)
  simpa using this
theorem RefSys.setK {w : World} {sb : Nat} {sv : Value} {ws : List RW} {c k : Int} (h : RefSys w sb sv ws c k) (x : Int) : RefSys (w.setCell ⟨sb, 2, none⟩ (.int .i64 x)) sb sv ws c x := by
  refine ⟨?_, ownsRow_chg h.row ((Chg.refl (fun b => b = sb) w).setCell (p := ⟨sb, 2, none⟩) rfl _) (fun k hk e => h.apart (by rw [hk, e])), h.apart⟩
  have := h.blk.set (o := 2) (.int .i64 x)
  simpa using this

/-- The reader stands in a later world, with another system. -/
theorem Rd.next {w w' : World} {rb sb : Nat} {tv sv sv' : Value} {toks : List Tk} {ws ws' : List RW} {c k c' k' : Int} {cs cs' : Array Value} (h : Rd w rb sb tv sv toks ws c k) (hb : Blk w rb cs 181) (hb' : Blk w' rb cs' 181)
    (hc : Chg (fun b => b = rb ∨ b = sb ∨ sv.ownBlock = some b) w w') (hs : RefSys w' sb sv' ws' c' k') (hl : ws'.length ≤ 1100000) (hw : ∀ x ∈ ws', x.inf.Wt 1 ∧ ∃ a n c, x.items = .slice a n c) : Rd w' rb sb tv sv' toks ws' c' k' := by
  refine ⟨h.tok.chg hc (fun b hk e => ?_), hs, h.tr, own_blk hs.row hb' (by decide), h.ne, h.few, hl, hw, h.tsz⟩
  rcases e with e | e | e
  · exact h.tr (by rw [hk, e])
  · exact own_blk h.tok h.sys.blk (by decide) (by rw [hk, e])
  · exact own_own h.tok h.sys.row (by decide) hk e

set_option maxHeartbeats 4000000 in
set_option maxRecDepth 100000 in
theorem ref_variable_err (rb sb : Nat) (tv sv : Value) (toks : List Tk) (ws : List RW) (c k : Int) (I : Nat) (fin A : Int) (w : World)
    (hR : Rd w rb sb tv sv toks ws c k) (hb : Blk w rb (rdr sb tv I fin 0 A) 181) (hI : I ≤ toks.length) (h0 : vrE ws c (tokS toks I) ≠ 0) :
    Calls Tryz.prog 89 #[.pointer (some ⟨rb, 0, none⟩)] w fun e w' => e = .returned (.tuple #[]) ∧ Blk w' rb (rdr sb tv I fin (vrE ws c (tokS toks I)) (plc toks fin I)) 181 ∧ Chg (fun b => b = rb) w w' := by
  have hfew := hR.few
  by_cases hn : nmE ws (tokS toks I) = 0
  · have hc16 : 16 ≤ c := by
      unfold vrE at h0; rw [if_pos hn] at h0
      rcases Int.lt_or_le c 16 with h | h
      · rw [if_neg (by omega)] at h0; exact absurd rfl h0
      · exact h
    have hE : vrE ws c (tokS toks I) = 8 := by unfold vrE; rw [if_pos hn, if_pos hc16]
    rw [hE]
    have HN := hidden (ref_named_ok rb sb tv sv toks ws c k I fin A w hR hb hI hn)
    have HX := hidden (fun (w' : World) (hbel : Below w.heap.size w w') => ref_fails rb sb tv toks I I fin A 8 w' (by omega) (by omega) ((hbel.block _ hb.lt).trans hb) (hR.chg (Chg.ofBelow hbel)).tok hR.tr)
    have HR := hidden hR; have HB := hidden hb
    obtain ⟨t, ht⟩ : ∃ t, t = tokS toks I := ⟨_, rfl⟩
    rw [← ht] at HN
    clear hR hb h0 hn hE ht
    go_enter Tryz.func89, Tryz.ntmps89
    go_wp2_with fail
    refine HN.out.mono ?_
    rintro e w1 ⟨rfl, h1⟩
    have hb1 : Blk w1 rb (rdr sb tv I fin 0 A) 181 := (h1.block _ HB.out.lt).trans HB.out
    have hR1 := HR.out.chg (Chg.ofBelow h1)
    obtain ⟨r0, r1, r2, r3, r4, r5⟩ := hb1.rdr
    obtain ⟨s0, s1, s2⟩ := hR1.sys.cells
    have H1 := hidden h1
    clear h1 HN hb1 hR1
    go_wp2_with fail
    refine (HX.out _ H1.out).mono ?_
    rintro e w2 ⟨rfl, hb2, hc2⟩
    have H3 := hidden hb2; have H4 := hidden ((Chg.ofBelow H1.out).trans hc2)
    clear hb2 hc2 HX r0 r1 r2 r3 r4 r5 s0 s1 s2
    go_wp2_with fail
    exact bodyPost_ret (results_none rfl _ _ _) rfl ⟨rfl, H3.out, H4.out⟩
  · have hE : vrE ws c (tokS toks I) = nmE ws (tokS toks I) := by unfold vrE; rw [if_neg hn]
    rw [hE]
    have HN := hidden (ref_named_err rb sb tv sv toks ws c k I fin A w hR hb hI hn)
    clear hR hb h0 hn hE
    go_enter Tryz.func89, Tryz.ntmps89
    go_wp2_with fail
    refine HN.out.mono ?_
    rintro e w1 ⟨rfl, h1, h2⟩
    have H1 := hidden h1; have H2 := hidden h2
    clear h1 h2 HN
    go_wp2_with fail
    exact bodyPost_ret (results_none rfl _ _ _) rfl ⟨rfl, H1.out, H2.out⟩

set_option maxHeartbeats 4000000 in
set_option maxRecDepth 100000 in
theorem ref_variable_ok (rb sb : Nat) (tv sv : Value) (toks : List Tk) (ws : List RW) (c k : Int) (I : Nat) (fin A : Int) (w : World)
    (hR : Rd w rb sb tv sv toks ws c k) (hb : Blk w rb (rdr sb tv I fin 0 A) 181) (hI : I ≤ toks.length) (hc0 : 0 ≤ c) (h0 : vrE ws c (tokS toks I) = 0) :
    Calls Tryz.prog 89 #[.pointer (some ⟨rb, 0, none⟩)] w fun e w' => e = .returned (.tuple #[]) ∧ Blk w' rb (rdr sb tv ((I + 1 : Nat) : Int) fin 0 A) 181 ∧ (∃ sv', RefSys w' sb sv' (ws ++ [⟨tokS toks I, c, .slice none 0 0, ⟨0, 0, 0, 0, false⟩⟩]) (c + 1) k ∧ Lc w sv sv') ∧ Chg (fun b => b = rb ∨ b = sb ∨ sv.ownBlock = some b) w w' := by
  have hfew := hR.few
  have hwf := hR.wfew
  have hn : nmE ws (tokS toks I) = 0 := by
    unfold vrE at h0
    rcases Classical.em (nmE ws (tokS toks I) = 0) with h | h
    · exact h
    · rw [if_neg h] at h0; exact absurd h0 h
  have hc16 : c < 16 := by
    unfold vrE at h0; rw [if_pos hn] at h0
    rcases Int.lt_or_le c 16 with h | h
    · exact h
    · rw [if_pos h] at h0; cases h0
  have hl40 : ws.length < 40 := by
    unfold nmE at hn
    rcases Nat.lt_or_ge ws.length 40 with h | h
    · exact h
    · rw [if_pos h] at hn; split at hn <;> cases hn
  have HN := hidden (ref_named_ok rb sb tv sv toks ws c k I fin A w hR hb hI hn)
  obtain ⟨t, ht⟩ : ∃ t, t = tokS toks I := ⟨_, rfl⟩
  rw [← ht] at HN ⊢
  obtain ⟨ad, cap, hv, hcap, _⟩ := row_shape hR.sys.row
  have hrs : rb ≠ sb := hR.ne
  have hsr : sb ≠ rb := hR.ne.symm
  have HR := hidden hR; have HB := hidden hb
  subst hv
  clear hR hb h0 hn ht
  go_enter Tryz.func89, Tryz.ntmps89
  go_wp2_with fail
  refine HN.out.mono ?_
  rintro e w1 ⟨rfl, h1⟩
  have hb1 : Blk w1 rb (rdr sb tv I fin 0 A) 181 := (h1.block _ HB.out.lt).trans HB.out
  have hR1 := HR.out.chg (Chg.ofBelow h1)
  obtain ⟨r0, r1, r2, r3, r4, r5⟩ := hb1.rdr
  obtain ⟨s0, s1, s2⟩ := hR1.sys.cells
  have fr2 := hb1.frozen 2
  obtain ⟨W, hW⟩ : ∃ W : World, W = w1.setCell ⟨rb, 2, none⟩ (.int .i64 ((I : Int) + 1)) := ⟨_, rfl⟩
  have hbW : Blk W rb (rdr sb tv ((I + 1 : Nat) : Int) fin 0 A) 181 := by
    rw [hW]; have := hb1.set (o := 2) (.int .i64 ((I : Int) + 1)); simpa [rdr] using this
  have hcW : Chg (fun b => b = rb) w W := by rw [hW]; exact (Chg.ofBelow h1 : Chg (fun b => b = rb) w w1).setCell (p := ⟨rb, 2, none⟩) rfl _
  have HBW := hidden hbW; have HCW := hidden hcW
  clear h1 HN hb1 hR1 hbW hcW
  go_upto_region 5 with fail
  rw [← hW]
  clear hW r0 r1 r2 r3 r4 r5 s0 s1 s2 fr2
  obtain ⟨r0, r1, r2, r3, r4, r5⟩ := HBW.out.rdr
  have hRW := HR.out.chg HCW.out
  obtain ⟨s0, s1, s2⟩ := hRW.sys.cells
  have q0 := hRW.sys.blk.frozen 0
  have hrl := HBW.out.lt
  have hsl := hRW.sys.blk.lt
  have HN := hidden hRW.sys.apart
  have HNR := hidden hRW.sr
  have hown := hidden hRW.sys.row
  have HRW := hidden hRW
  obtain ⟨i0, hi, hz0, hz1, hz2⟩ := info_parts Tryz.infoRW
  have HI := hidden (And.intro hi (And.intro hz0 (And.intro hz1 hz2)))
  have H1 := hidden (RW.one (x := ⟨t, c, .slice none 0 0, ⟨0, 0, 0, 0, false⟩⟩) ⟨_, _, _, rfl⟩)
  have HC := hidden (show ws.length + 1 ≤ maxLen by unfold maxLen; omega)
  have HDD := hidden (show (ws.length + 1) * 88 ≤ 140737488355328 by omega)
  have hne : Nonempty {w' : World // Chg (fun b => (Value.slice ad ws.length cap).ownBlock = some b) W w'} := ⟨⟨W, Chg.refl _ _⟩⟩
  have k0 : ∀ u : {w' : World // Chg (fun b => (Value.slice ad ws.length cap).ownBlock = some b) W w'}, u.val.cell? ⟨rb, 0, none⟩ = some (.pointer (some ⟨sb, 0, none⟩)) := fun u => (u.property.cell (p := ⟨rb, 0, none⟩) hrl HNR.out).trans r0
  have k1 : ∀ u : {w' : World // Chg (fun b => (Value.slice ad ws.length cap).ownBlock = some b) W w'}, u.val.cell? ⟨sb, 0, none⟩ = some (.slice ad ws.length cap) := fun u => (u.property.cell (p := ⟨sb, 0, none⟩) hsl HN.out).trans s0
  have k2 : ∀ u : {w' : World // Chg (fun b => (Value.slice ad ws.length cap).ownBlock = some b) W w'}, u.val.cell? ⟨sb, 1, none⟩ = some (.int .i64 c) := fun u => (u.property.cell (p := ⟨sb, 1, none⟩) hsl HN.out).trans s1
  clear r0 r1 r2 r3 r4 r5 s0 s1 s2 hRW hi hz0 hz1 hz2
  refine wp_region_turns (C := OneOf fun w' => Chg (fun b => (Value.slice ad ws.length cap).ownBlock = some b) W w') 24 [20, 21] ⟨W.drew, (Chg.refl _ W).drew⟩ (by kernel_rfl) (by kernel_rfl) rfl ?_
  rw [show List.range 24 = [0, 1, 2, 3, 4, 5, 6, 7, 8, 9, 10, 11, 12, 13, 14, 15, 16, 17, 18, 19, 20, 21, 22, 23] from rfl]
  repeat (refine wpT_step rfl rfl (fun K hK => ?_); go_simp; refine hK _ ?_; clear hK K)
  have hKW := hidden (show ∀ j u, ([.string t, .int .i64 c, .slice none 0 0, .int .i64 0, .int .i64 0, .int .i64 0, .int .i64 0, .bool false] : List Value)[j]? = some u → (W.drew.alloc (.cells #[.string t, .int .i64 c, .slice none 0 0, .int .i64 0, .int .i64 0, .int .i64 0, .int .i64 0, .bool false] 186 (0, 0))).cell? ((Addr.mk W.heap.size 0 none).add j) = some u from World.news_of_block (fr := (0, 0)) (heap_alloc_new W.drew _))
  refine wpT_turn1 rfl rfl (.slice (some ⟨W.heap.size, 0, none⟩) 1 1) (W.drew.alloc (.cells #[.string t, .int .i64 c, .slice none 0 0, .int .i64 0, .int .i64 0, .int .i64 0, .int .i64 0, .bool false] 186 (0, 0))) ((Chg.refl _ W).drew.alloc _) (Or.inl (by go_simp)) ?_
  obtain ⟨hi, hz0, hz1, hz2⟩ := HI.out
  refine wpT_append rfl rfl (W.drew.alloc (.cells #[.string t, .int .i64 c, .slice none 0 0, .int .i64 0, .int .i64 0, .int .i64 0, .int .i64 0, .bool false] 186 (0, 0))) rfl _ _ _ rfl 0 186 i0 rwz 8 88 Tryz.underlying174 hi hz0 hz1 hz2 rfl (by decide) (.slice ad ws.length cap) ws.length (wsCells ws) rfl (hown.out.drew.alloc _) (Addr.mk W.heap.size 0 none) 1 1 [.string t, .int .i64 c, .slice none 0 0, .int .i64 0, .int .i64 0, .int .i64 0, .int .i64 0, .bool false] rfl rfl hKW.out H1.out (by decide) HC.out HDD.out (Nat.zero_le _) (W.heap.size + 1) (by simp) (fun w' hg => ((Chg.refl _ W).drew.alloc _).trans ((Chg.ofGrown hg).mono (fun k _ e => e.symm))) ?_
  intro gg cap1 w1 hcg hown1 hgrow hat hlt1
  go_simp
  repeat (refine wpT_step rfl rfl (fun K hK => ?_); go_simp; refine hK _ ?_; clear hK K)
  have hps := HRW.out.sys.push (x := ⟨t, c, .slice none 0 0, ⟨0, 0, 0, 0, false⟩⟩) hown1 hcg
  have hbZ := (HBW.out.chg hcg HNR.out).setOther (a := ⟨sb, 0, none⟩) hsr (.slice (some ⟨gg, 0, none⟩) (ws.length + 1) cap1)
  have hcZ : Chg (fun b => b = rb ∨ b = sb ∨ (Value.slice ad ws.length cap).ownBlock = some b) w (w1.setCell ⟨sb, 0, none⟩ (.slice (some ⟨gg, 0, none⟩) (ws.length + 1) cap1)) := by
    have h1 : Chg (fun b => b = rb ∨ b = sb ∨ (Value.slice ad ws.length cap).ownBlock = some b) w w1 := (HCW.out.mono (fun k _ e => Or.inl e)).trans (hcg.mono (fun k _ e => Or.inr (Or.inr e)))
    exact h1.setCell (p := ⟨sb, 0, none⟩) (Or.inr (Or.inl rfl)) _
  have HLC : Hid (Lc w (Value.slice ad ws.length cap) (.slice (some ⟨gg, 0, none⟩) (ws.length + 1) cap1)) := fun k hk => by simp only [Value.ownBlock, Option.some.injEq] at hk; subst hk; exact hat.imp id (fun e => by rw [e]; have := HCW.out.size; omega)
  have d0 := k1 ⟨w1, hcg⟩
  have d1 : w1.frozen? ⟨sb, 0, none⟩ = false := (HRW.out.sys.blk.chg hcg HN.out).frozen 0
  have d2 := k0 ⟨w1, hcg⟩
  have d3 := k2 ⟨w1, hcg⟩
  have d4 : w1.frozen? ⟨sb, 1, none⟩ = false := (HRW.out.sys.blk.chg hcg HN.out).frozen 1
  simp only at d0 d2 d3
  have HPS := hidden (hps.setC (c + 1)); have HBZ := hidden (hbZ.setOther (a := ⟨sb, 1, none⟩) hsr (.int .i64 (c + 1))); have HCZ := hidden (hcZ.setCell (p := ⟨sb, 1, none⟩) (Or.inr (Or.inl rfl)) (.int .i64 (c + 1)))
  refine wpT_end ?_
  simp only [List.drop_succ_cons, List.drop_zero]
  clear hps hbZ hcZ hgrow hown1 hat hlt1 k0 k1 k2 hne
  go_wp2_with fail
  go_end0
  exact ⟨rfl, HBZ.out, ⟨_, HPS.out, HLC.out⟩, HCZ.out⟩

end Go.Proofs.YtcphhbofjkenaaaGreatDoor
