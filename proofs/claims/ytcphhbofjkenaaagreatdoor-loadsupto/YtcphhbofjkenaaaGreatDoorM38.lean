/- The document's answer: a word's definition. -/
import Derived.StillTailTactics
import Derived.Test.YtcphhbofjkenaaaGreatDoorM37

namespace Go.Proofs.YtcphhbofjkenaaaGreatDoor
open Go Go.RowKit
set_option linter.unusedVariables false
set_option linter.unusedSimpArgs false
attribute [local go_sem] quietG

/-- What a word's definition leaves. -/
def ColPost (rb sb : Nat) (tv sv : Value) (ws : List RW) (c k : Int) (I : Nat) (fin A : Int) (w : World) (R : (ByteArray × List AI × Nat) ⊕ (Int × Int)) (e : Ending) (w' : World) : Prop :=
  e = .returned (.tuple #[]) ∧
  match R with
  | .inr (E, P) => E ≠ 0 ∧ ∃ J : Nat, Blk w' rb (rdr sb tv J fin E P) 181 ∧ Chg (fun b => b = rb) w w'
  | .inl (t, l, I') => Blk w' rb (rdr sb tv I' fin 0 A) 181 ∧ Chg (fun b => b = rb ∨ b = sb ∨ sv.ownBlock = some b) w w' ∧
      ∃ sv' v, (∃ a n c, v = .slice a n c) ∧ RefSys w' sb sv' (ws ++ [⟨t, -1, v, wInf l⟩]) c (k + I' - ((I : Int) - 1)) ∧ Lc w sv sv'

theorem semi_cells (w : World) (t : TypeId) : ∀ j (h : j < [tSemi].length), (w.alloc (.cells #[.string tSemi] t)).cell? ⟨w.heap.size, j, none⟩ = some (.string [tSemi][j]) := by
  intro j h
  have h1 : j < 1 := h
  match j, h1 with
  | 0, _ => simp

theorem nmE_name {ws : List RW} {t : ByteArray} (h : nmE ws t = 0) : nameS t = true ∧ ws.length < 40 := by
  unfold nmE at h
  cases hh : nameS t with
  | false => rw [hh] at h; simp at h
  | true =>
    rw [hh] at h
    refine ⟨rfl, ?_⟩
    rcases Nat.lt_or_ge ws.length 40 with h2 | h2
    · exact h2
    · simp [h2] at h

theorem tok_lt {toks : List Tk} {I : Nat} (h : nameS (tokS toks I) = true) : I < toks.length := by
  rcases Nat.lt_or_ge I toks.length with h2 | h2
  · exact h2
  · have : tokS toks I = ⟨#[]⟩ := by simp [tokS, List.getD, List.getElem?_eq_none h2]
    rw [this] at h
    exact absurd (ba_list []) (name_some h)

set_option maxHeartbeats 4000000 in
set_option maxRecDepth 100000 in
theorem ref_colon_err1 (rb sb : Nat) (tv sv : Value) (toks : List Tk) (ws : List RW) (c k : Int) (I f : Nat) (fin A : Int) (w : World)
    (hR : Rd w rb sb tv sv toks ws c k) (hb : Blk w rb (rdr sb tv I fin 0 A) 181) (hI : I ≤ toks.length) (hn : nmE ws (tokS toks I) ≠ 0) :
    Calls Tryz.prog 90 #[.pointer (some ⟨rb, 0, none⟩)] w (ColPost rb sb tv sv ws c k I fin A w (pColon ws k toks fin f I)) := by
  have hfew := hR.few
  have hE : pColon ws k toks fin f I = .inr (nmE ws (tokS toks I), plc toks fin I) := by
    unfold pColon nmE
    unfold nmE at hn
    cases hnm : nameS (tokS toks I) with
    | false => simp
    | true =>
      rw [hnm] at hn
      simp only [Bool.true_eq_false, if_false] at hn ⊢
      rcases Nat.lt_or_ge ws.length 40 with h | h
      · rw [if_neg (show ¬ 40 ≤ ws.length by omega)] at hn; exact absurd rfl hn
      · rw [if_pos h, if_pos h]
  rw [hE]
  obtain ⟨r0, r1, r2, r3, r4, r5⟩ := hb.rdr
  have HN := hidden (ref_named_err rb sb tv sv toks ws c k I fin A w hR hb hI hn)
  have HE := hidden hn
  have hI2 : (I : Int) ≤ 1100000 := by omega
  have hI3 : (0 : Int) ≤ (I : Int) := by omega
  clear hR hb hn hE
  go_enter Tryz.func90, Tryz.ntmps90
  go_wp2_with fail
  refine HN.out.mono ?_
  rintro e w1 ⟨rfl, h1, h2⟩
  have H1 := hidden h1; have H2 := hidden h2
  clear h1 h2 HN
  go_wp2_with fail
  exact bodyPost_ret (results_none rfl _ _ _) rfl ⟨rfl, HE.out, I, H1.out, H2.out⟩

set_option maxHeartbeats 4000000 in
set_option maxRecDepth 100000 in
theorem ref_colon_go (rb sb : Nat) (tv sv : Value) (toks : List Tk) (ws : List RW) (c k : Int) (I f : Nat) (fin A : Int) (w : World)
    (hR : Rd w rb sb tv sv toks ws c k) (hb : Blk w rb (rdr sb tv I fin 0 A) 181) (hf : toks.length + 1 ≤ f) (hI1 : 1 ≤ I) (hk0 : 0 ≤ k) (hk1 : k ≤ 400) (hn : nmE ws (tokS toks I) = 0) :
    Calls Tryz.prog 90 #[.pointer (some ⟨rb, 0, none⟩)] w (ColPost rb sb tv sv ws c k I fin A w (pColon ws k toks fin f I)) := by
  have hfew := hR.few
  have hwf := hR.wfew
  obtain ⟨hnm, h40⟩ := nmE_name hn
  have hIl := tok_lt hnm
  obtain ⟨R, hRR⟩ : ∃ R, R = pColon ws k toks fin f I := ⟨_, rfl⟩
  rw [← hRR]
  unfold pColon at hRR
  rw [if_neg (by rw [hnm]; simp), if_neg (by omega)] at hRR
  have HN := hidden (ref_named_ok rb sb tv sv toks ws c k I fin A w hR hb (by omega) hn)
  have HTSZ := hidden hR.tsz
  obtain ⟨t, ht⟩ : ∃ t, t = tokS toks I := ⟨_, rfl⟩
  rw [← ht] at HN hRR
  obtain ⟨r0, r1, r2, r3, r4, r5⟩ := hb.rdr
  have hI2 : (I : Int) ≤ 1100000 := by omega
  have hI3 : (1 : Int) ≤ (I : Int) := by omega
  have hwok := hR.wok
  have HR := hidden hR; have HB := hidden hb; have HRR := hidden hRR; have HWOK := hidden hwok
  clear hR hb hn ht hnm hRR hwok
  go_enter Tryz.func90, Tryz.ntmps90
  go_wp2_with fail
  refine HN.out.mono ?_
  rintro e w1 ⟨rfl, h1⟩
  have hb1 : Blk w1 rb (rdr sb tv I fin 0 A) 181 := (h1.block _ HB.out.lt).trans HB.out
  clear r0 r1 r2 r3 r4 r5
  obtain ⟨r0, r1, r2, r3, r4, r5⟩ := hb1.rdr
  have fr2 := hb1.frozen 2
  obtain ⟨W, hW⟩ : ∃ W : World, W = w1.setCell ⟨rb, 2, none⟩ (.int .i64 ((I : Int) + 1)) := ⟨_, rfl⟩
  have hbW : Blk W rb (rdr sb tv ((I + 1 : Nat) : Int) fin 0 A) 181 := by
    rw [hW]; have := hb1.set (o := 2) (.int .i64 ((I : Int) + 1)); simpa [rdr] using this
  have hcW : Chg (fun b => b = rb) w W := by rw [hW]; exact (Chg.ofBelow h1 : Chg (fun b => b = rb) w w1).setCell (p := ⟨rb, 2, none⟩) rfl _
  have HBW := hidden hbW; have HCW := hidden hcW
  clear h1 HN hb1 hbW hcW
  go_upto_region 4 with fail
  rw [← hW]
  clear hW r0 r1 r2 r3 r4 r5 fr2
  have hW4 : Rd (W.alloc (.cells #[.string tSemi] 9 (0, 0))) rb sb tv sv toks ws c k := (HR.out.chg HCW.out).chg ((Chg.refl _ W).alloc _)
  have HIT := hidden (items_said (toks.length + 1) rb sb tv sv toks ws c k (I + 1) f fin A 0 [tSemi] W.heap.size 1 (W.alloc (.cells #[.string tSemi] 9 (0, 0))) hW4 (HBW.out.alloc _) (by omega) (by omega) (by omega) (by omega) (by omega) (by decide) (by decide) (by have := HBW.out.lt; omega) (semi_cells W 9))
  have hszW : (W.alloc (.cells #[.string tSemi] 9 (0, 0))).heap.size = W.heap.size + 1 := by simp
  obtain ⟨W4, hW4e⟩ : ∃ W4 : World, W4 = W.alloc (.cells #[.string tSemi] 9 (0, 0)) := ⟨_, rfl⟩
  rw [← hW4e] at HIT hW4 hszW
  have hCW4 : Chg (fun b => b = rb) w W4 := by rw [hW4e]; exact HCW.out.alloc _
  have HR4 := hidden hW4; have HC4 := hidden hCW4; have HSZ4 := hidden hszW; have H4E := hidden hW4e
  clear hW4 hCW4 hszW hW4e HBW HCW
  go_wp2_with fail
  rw [show Obj.cells #[Value.string ⟨#[59]⟩] 9 = Obj.cells #[Value.string tSemi] 9 from rfl, ← H4E.out]
  refine HIT.out.mono ?_
  intro e w5 hP
  cases hp : pItems ws toks fin f [tSemi] 0 [] (I + 1) with
  | inr q =>
    obtain ⟨E, P⟩ := q
    rw [hp] at hP
    obtain ⟨ad, m, cap, J, rfl, hE, hB5, hC5⟩ := hP
    have hfin : Hid (R = .inr (E, P)) := by show R = _; rw [HRR.out, hp]
    have hEb : (E == 0) = false := by simpa using hE
    have hEn : (E != 0) = true := by simpa using hE
    obtain ⟨r0, r1, r2, r3, r4, r5⟩ := hB5.rdr
    have HB5 := hidden hB5; have HC5 := hidden (HC4.out.trans hC5); have HE := hidden hE
    clear hB5 hC5 hE HIT HRR hp
    go_wp2_with fail
    rw [hfin.out]
    exact bodyPost_ret (results_none rfl _ _ _) rfl ⟨rfl, HE.out, J, HB5.out, HC5.out⟩
  | inl q =>
    obtain ⟨l, t', I'⟩ := q
    rw [hp] at hP
    obtain ⟨v, xs, F, rfl, hB5, hC5, hAt⟩ := hP
    obtain ⟨o1, o2, o3, o4⟩ := pItems_ok ws toks fin HWOK.out f [tSemi] 0 [] (I + 1) l t' I' hp ends4 (WtL.nil 0)
    have hrr := HRR.out
    rw [hp] at hrr
    simp only at hrr
    obtain ⟨ad, cap, hv, hcap, _⟩ := row_shape hAt.row
    subst hv
    have hwt : ∃ r : Nat, r ≤ 0 + (I' - (I + 1)) ∧ (infL l).Wt r := o4.upTo l.length (Nat.le_refl _)
    have hR5 := HR4.out.chg hC5
    have HAL := hidden (hAt.all' o4 (by omega) (by simp at o3; omega) w5 (fun _ _ => rfl) (fun _ _ => rfl) hR5.sys)
    have hw : wInf l = { infL l with steps := (infL l).steps + 1 } := rfl
    obtain ⟨i, hi⟩ : ∃ i, i = infL l := ⟨_, rfl⟩
    rw [← hi] at hrr HAL hwt hw
    obtain ⟨rr, _, hwt⟩ := hwt
    have hs0 := hwt.s0; have hs1 := hwt.s1
    obtain ⟨r0, r1, r2, r3, r4, r5⟩ := hB5.rdr
    have HB5 := hidden hB5; have HC5 := hidden (HC4.out.trans hC5); have HR5 := hidden hR5; have HF := hidden hrr; have HWI := hidden hw
    have hI4 : (I : Int) + 1 < (I' : Int) := by omega
    have hI5 : (I' : Int) ≤ 1100000 := by omega
    obtain ⟨p, hp1⟩ : ∃ p : Nat, I' = p + 1 := ⟨I' - 1, by omega⟩
    have e1 : (I' : Int) - 1 = (p : Int) := by omega
    have hpt : p ≤ toks.length := by omega
    have HP1 := hidden hp1
    simp only [Inf.val] at HAL
    clear hB5 hC5 hR5 hrr hw hi HIT HRR hp hAt o1 o2 o3 o4 hwt hp1
    go_wp2_with fail
    refine HAL.out.mono ?_
    rintro e w6 ⟨rfl, hb6⟩
    have hB6 : Blk w6 rb (rdr sb tv I' fin 0 A) 181 := (hb6.block _ HB5.out.lt).trans HB5.out
    have hR6 := HR5.out.chg (Chg.ofBelow hb6)
    obtain ⟨b1, hb1⟩ : ∃ b1, b1 = w6.heap.size := ⟨_, rfl⟩
    obtain ⟨X, hX⟩ : ∃ X : World, X = w6.alloc (.cells #[.int .i64 i.need, .int .i64 i.net, .int .i64 i.high, .int .i64 i.steps, .bool i.str] 36 (0, 0)) := ⟨_, rfl⟩
    have hkX : Blk X b1 #[.int .i64 i.need, .int .i64 i.net, .int .i64 i.high, .int .i64 i.steps, .bool i.str] 36 := by rw [hX, hb1]; exact blk_new w6 _ _
    have hBX : Blk X rb (rdr sb tv I' fin 0 A) 181 := by rw [hX]; exact hB6.alloc _
    have hRX : Rd X rb sb tv sv toks ws c k := by rw [hX]; exact hR6.chg ((Chg.refl _ w6).alloc _)
    have hCX : Chg (fun b => b = rb) w X := by rw [hX]; exact (HC5.out.trans (Chg.ofBelow hb6)).alloc _
    have hnb : b1 ≠ rb := by have := hB6.lt; omega
    have hnb' : rb ≠ b1 := hnb.symm
    have hwb : w.heap.size ≤ b1 := by rw [hb1]; exact Nat.le_trans HC5.out.size hb6.size
    obtain ⟨Y, hY⟩ : ∃ Y : World, Y = X.setCell ⟨b1, 3, none⟩ (.int .i64 (i.steps + 1)) := ⟨_, rfl⟩
    have hcY : Chg (fun b => b = b1) X Y := by rw [hY]; exact (Chg.refl (fun b => b = b1) X).setCell (p := ⟨b1, 3, none⟩) rfl _
    have hkY : Blk Y b1 #[.int .i64 i.need, .int .i64 i.net, .int .i64 i.high, .int .i64 (i.steps + 1), .bool i.str] 36 := by rw [hY]; have := hkX.set (o := 3) (.int .i64 (i.steps + 1)); simpa using this
    have hBY := hBX.chg hcY hnb'
    have hnt : tv.ownBlock ≠ some b1 := own_blk hRX.tok hkX (by decide)
    have hns : sv.ownBlock ≠ some b1 := own_blk hRX.sys.row hkX (by decide)
    have hnsb : sb ≠ b1 := blk_ne hRX.sys.blk hkX (by decide)
    have hRY : Rd Y rb sb tv sv toks ws c k := ⟨hRX.tok.chg hcY (fun b hb e => hnt (by rw [hb, e])), hRX.sys.chg hcY hnsb (fun b hb e => hns (by rw [hb, e])), hRX.tr, hRX.sr, hRX.ne, hRX.few, hRX.wfew, hRX.wok, hRX.tsz⟩
    have hCY : Chg (fun b => b = rb) w Y := hCX.thru hcY (fun k hk e => by omega)
    have c3 : X.cell? ⟨b1, 3, none⟩ = some (.int .i64 i.steps) := hkX.cell 3 _ rfl
    have f3 := hkX.frozen 3
    have HKY := hidden hkY; have HBY := hidden hBY; have HRY := hidden hRY; have HCY := hidden hCY; have HX := hidden hX; have HB1 := hidden hb1
    clear hb6 hB6 hR6 hkX hBX hRX hCX hcY hkY hBY hnt hns hRY hCY HAL HB5 HC5 HR5 r0 r1 r2 r3 r4 r5 hX hb1
    go_upto_region 7 with fail
    rw [← HX.out, ← HB1.out]
    go_upto_region 8 with fail
    rw [← hY]
    obtain ⟨r0, r1, r2, r3, r4, r5⟩ := HBY.out.rdr
    obtain ⟨s0, s1, s2⟩ := HRY.out.sys.cells
    have y3 : Y.cell? ⟨b1, 3, none⟩ = some (.int .i64 (i.steps + 1)) := HKY.out.cell 3 _ rfl
    have HXF := hidden (fun (w' : World) (E : Int) (hbel : Below Y.heap.size Y w') => ref_fails rb sb tv toks p I' fin A E w' (by omega) (by omega) ((hbel.block _ HBY.out.lt).trans HBY.out) (HRY.out.chg (Chg.ofBelow hbel)).tok HRY.out.tr)
    clear c3 f3 hY
    by_cases h7 : 1000000000 < i.steps + 1
    · have hfin : Hid (R = .inr (7, plc toks fin p)) := by
        show R = _; rw [HF.out, if_pos h7, show I' - 1 = p by have := HP1.out; omega]
      clear HF
      go_wp2_with fail
      refine (HXF.out _ _ (Below.refl _ _)).mono ?_
      rintro e w7 ⟨rfl, hb7, hc7⟩
      have H7 := hidden hb7; have H8 := hidden (HCY.out.trans hc7)
      clear hb7 hc7 r0 r1 r2 r3 r4 r5 s0 s1 s2 y3
      go_wp2_with fail
      rw [hfin.out]; exact bodyPost_ret (results_none rfl _ _ _) rfl ⟨rfl, by decide, I', H7.out, H8.out⟩
    · have hrr := HF.out
      rw [if_neg h7] at hrr
      have h7' : ¬ 1000000000 < i.steps + 1 := h7
      by_cases h8 : 400 < k + I' - ((I : Int) - 1)
      · have hfin : Hid (R = .inr (8, plc toks fin p)) := by
          show R = _; rw [hrr, if_pos h8, show I' - 1 = p by have := HP1.out; omega]
        clear HF hrr h7
        go_wp2_with fail
        go_quiet (fail)
        go_wp2_with fail
        refine (HXF.out (Y.drewN nq) 8 ⟨rfl, rfl, rfl, Nat.le_refl _, fun _ _ => rfl⟩).mono ?_
        rintro e w7 ⟨rfl, hb7, hc7⟩
        have H7 := hidden hb7; have H8 := hidden ((HCY.out.trans (Chg.ofBelow (show Below Y.heap.size Y (Y.drewN nq) from ⟨rfl, rfl, rfl, Nat.le_refl _, fun _ _ => rfl⟩))).trans hc7)
        clear hb7 hc7 r0 r1 r2 r3 r4 r5 s0 s1 s2 y3
        go_wp2_with fail
        rw [hfin.out]; exact bodyPost_ret (results_none rfl _ _ _) rfl ⟨rfl, by decide, I', H7.out, H8.out⟩
      · have hfin : Hid (R = .inl (t, l, I')) := by
          show R = _; rw [hrr, if_neg h8]
        clear HF hrr h7 HXF
        go_wp2_with fail
        go_quiet (fail)
        have hbq : Below Y.heap.size Y (Y.drewN nq) := ⟨rfl, rfl, rfl, Nat.le_refl _, fun _ _ => rfl⟩
        obtain ⟨V, hV⟩ : ∃ V : World, V = Y.drewN nq := ⟨_, rfl⟩
        rw [← hV] at hbq
        go_wp2_with fail
        rw [← hV]
        have hBV : Blk V rb (rdr sb tv I' fin 0 A) 181 := (hbq.block _ HBY.out.lt).trans HBY.out
        have hRV := HRY.out.chg (Chg.ofBelow hbq)
        have hKV : Blk V b1 #[.int .i64 i.need, .int .i64 i.net, .int .i64 i.high, .int .i64 (i.steps + 1), .bool i.str] 36 := (hbq.block _ HKY.out.lt).trans HKY.out
        have hCV : Chg (fun b => b = rb) w V := HCY.out.trans (Chg.ofBelow hbq)
        clear r0 r1 r2 r3 r4 r5 s0 s1 s2 y3 hV hbq
        obtain ⟨r0, r1, r2, r3, r4, r5⟩ := hBV.rdr
        obtain ⟨s0, s1, s2⟩ := hRV.sys.cells
        have s3 := hRV.sys.blk.frozen 2
        obtain ⟨Z, hZ⟩ : ∃ Z : World, Z = (V.setCell ⟨sb, 2, none⟩ (.int .i64 (k + I' - ((I : Int) - 1)))).drew := ⟨_, rfl⟩
        have hcZ : Chg (fun b => b = sb) V Z := by rw [hZ]; exact ((Chg.refl (fun b => b = sb) V).setCell (p := ⟨sb, 2, none⟩) rfl _).drew
        have hsZ : RefSys Z sb sv ws c (k + I' - ((I : Int) - 1)) := by
          rw [hZ]; exact (RefSys.setK hRV.sys _).chg (Chg.refl (fun _ => False) _).drew id (fun _ _ => id)
        have hBZ := hBV.chg hcZ hRV.ne
        have hKZ := hKV.chg hcZ hnsb.symm
        have hCZ : Chg (fun b => b = rb ∨ b = sb ∨ sv.ownBlock = some b) w Z := (hCV.mono (fun k _ e => Or.inl e)).trans (hcZ.mono (fun k _ e => Or.inr (Or.inl e)))
        have hsr := hRV.sr
        have hrs : rb ≠ sb := hRV.ne
        have hsb' : sb ≠ rb := hRV.ne.symm
        have HBZ := hidden hBZ; have HKZ := hidden hKZ; have HCZ := hidden hCZ; have HSZ := hidden hsZ; have HSR := hidden hsr
        clear hcZ hsZ hBZ hKZ hCZ hBV hRV hKV hCV HBY HRY HCY HKY
        go_still_tail 20, (by kernel_rfl)
        go_wp2_with fail
        rw [← hZ]
        clear r0 r1 r2 r3 r4 r5 s0 s1 s2 s3 hZ
        obtain ⟨sad, scap, hsv, _, _⟩ := row_shape HSZ.out.row
        obtain ⟨i0, hi, hz0, hz1, hz2⟩ := info_parts Tryz.infoRW
        have hwI := HWI.out
        have HI := hidden (And.intro hi (And.intro hz0 (And.intro hz1 hz2)))
        have H1 := hidden (RW.one (x := ⟨t, -1, .slice ad l.length cap, wInf l⟩) ⟨_, _, _, rfl⟩)
        have HLM := hidden (show ws.length + 1 ≤ maxLen by unfold maxLen; omega)
        have HDD := hidden (show (ws.length + 1) * 88 ≤ 140737488355328 by omega)
        have hne : Nonempty {w' : World // Chg (fun b => sv.ownBlock = some b) Z w'} := ⟨⟨Z, Chg.refl _ _⟩⟩
        have hnb1 : sv.ownBlock ≠ some b1 := own_blk HSZ.out.row HKZ.out (by decide)
        have k0 : ∀ u : {w' : World // Chg (fun b => sv.ownBlock = some b) Z w'}, u.val.cell? ⟨rb, 0, none⟩ = some (.pointer (some ⟨sb, 0, none⟩)) := fun u => (u.property.cell (p := ⟨rb, 0, none⟩) HBZ.out.lt HSR.out).trans HBZ.out.rdr.1
        have k1 : ∀ u : {w' : World // Chg (fun b => sv.ownBlock = some b) Z w'}, u.val.cell? ⟨sb, 0, none⟩ = some (.slice sad ws.length scap) := fun u => ((u.property.cell (p := ⟨sb, 0, none⟩) HSZ.out.blk.lt HSZ.out.apart).trans HSZ.out.cells.1).trans (by rw [hsv])
        have kc : ∀ (j : Nat) (x : Value), #[.int .i64 i.need, .int .i64 i.net, .int .i64 i.high, .int .i64 (i.steps + 1), .bool i.str][j]? = some x → ∀ u : {w' : World // Chg (fun b => sv.ownBlock = some b) Z w'}, u.val.cell? ⟨b1, j, none⟩ = some x := fun j x hx u => (u.property.cell (p := ⟨b1, j, none⟩) HKZ.out.lt hnb1).trans (HKZ.out.cell j x hx)
        have m0 := kc 0 _ rfl; have m1 := kc 1 _ rfl; have m2 := kc 2 _ rfl; have m3 := kc 3 _ rfl; have m4 := kc 4 _ rfl
        have HSV := hidden hsv; have HWW := hidden hwI
        clear kc hi hz0 hz1 hz2 hsv hwI
        refine wp_region_turns (C := OneOf fun w' => Chg (fun b => sv.ownBlock = some b) Z w') 19 [15, 16] ⟨Z.drew, (Chg.refl _ Z).drew⟩ (by kernel_rfl) (by kernel_rfl) rfl ?_
        rw [show List.range 19 = [0, 1, 2, 3, 4, 5, 6, 7, 8, 9, 10, 11, 12, 13, 14, 15, 16, 17, 18] from rfl]
        repeat (refine wpT_step rfl rfl (fun K hK => ?_); go_simp; refine hK _ ?_; clear hK K)
        obtain ⟨cs, hcs⟩ : ∃ cs : Array Value, cs = #[.string t, .int .i64 (-1), .slice ad l.length cap, .int .i64 i.need, .int .i64 i.net, .int .i64 i.high, .int .i64 (i.steps + 1), .bool i.str] := ⟨_, rfl⟩
        have hcl : cs.toList = (⟨t, -1, .slice ad l.length cap, wInf l⟩ : RW).cells := by rw [hcs, HWW.out]; rfl
        have hKW := hidden (show ∀ j u, cs.toList[j]? = some u → (Z.drew.alloc (.cells cs 186 (0, 0))).cell? ((Addr.mk Z.heap.size 0 none).add j) = some u from World.news_of_block (fr := (0, 0)) (heap_alloc_new Z.drew _))
        refine wpT_turn1 rfl rfl (.slice (some ⟨Z.heap.size, 0, none⟩) 1 1) (Z.drew.alloc (.cells cs 186 (0, 0))) ((Chg.refl _ Z).drew.alloc _) (Or.inl (by rw [hcs]; go_simp)) ?_
        obtain ⟨hi, hz0, hz1, hz2⟩ := HI.out
        refine wpT_append rfl rfl (Z.drew.alloc (.cells cs 186 (0, 0))) rfl _ _ _ rfl 0 186 i0 rwz 8 88 Tryz.underlying174 hi hz0 hz1 hz2 rfl (by decide) (.slice sad ws.length scap) ws.length (wsCells ws) rfl (by have h := HSZ.out.row; rw [HSV.out] at h; exact h.drew.alloc _) (Addr.mk Z.heap.size 0 none) 1 1 cs.toList rfl (by rw [hcl]; rfl) hKW.out (by rw [hcl]; exact H1.out) (by decide) HLM.out HDD.out (Nat.zero_le _) (Z.heap.size + 1) (by simp) (fun w' hg => ((Chg.refl _ Z).drew.alloc _).trans ((Chg.ofGrown hg).mono (fun k _ e => by rw [HSV.out]; exact e.symm))) ?_
        intro gg cap1 w1 hcg hown1 hgrow hat hlt1
        rw [hcl] at hown1
        go_simp
        repeat (refine wpT_step rfl rfl (fun K hK => ?_); go_simp; refine hK _ ?_; clear hK K)
        have hps := HSZ.out.push (x := ⟨t, -1, .slice ad l.length cap, wInf l⟩) hown1 hcg
        have hbZ := (HBZ.out.chg hcg HSR.out).setOther (a := ⟨sb, 0, none⟩) hsb' (.slice (some ⟨gg, 0, none⟩) (ws.length + 1) cap1)
        have hcZ : Chg (fun b => b = rb ∨ b = sb ∨ sv.ownBlock = some b) w (w1.setCell ⟨sb, 0, none⟩ (.slice (some ⟨gg, 0, none⟩) (ws.length + 1) cap1)) := by
          have h1 : Chg (fun b => b = rb ∨ b = sb ∨ sv.ownBlock = some b) w w1 := HCZ.out.trans (hcg.mono (fun k _ e => Or.inr (Or.inr e)))
          exact h1.setCell (p := ⟨sb, 0, none⟩) (Or.inr (Or.inl rfl)) _
        have HLC : Hid (Lc w sv (.slice (some ⟨gg, 0, none⟩) (ws.length + 1) cap1)) := fun k hk => by simp only [Value.ownBlock, Option.some.injEq] at hk; subst hk; rw [HSV.out]; exact hat.imp id (fun e => by rw [e]; have := HCZ.out.size; omega)
        have d0 := k1 ⟨w1, hcg⟩
        have d1 : w1.frozen? ⟨sb, 0, none⟩ = false := (HSZ.out.blk.chg hcg HSZ.out.apart).frozen 0
        simp only at d0
        have HPS := hidden hps; have HBB := hidden hbZ; have HCC := hidden hcZ
        refine wpT_end ?_
        simp only [List.drop_succ_cons, List.drop_zero]
        clear hps hbZ hcZ hgrow hown1 hat hlt1 k0 k1 m0 m1 m2 m3 m4 hne
        go_wp2_with fail
        rw [hfin.out]
        go_end0
        exact ⟨rfl, HBB.out, HCC.out, _, _, ⟨_, _, _, rfl⟩, HPS.out, HLC.out⟩

theorem ref_colon (rb sb : Nat) (tv sv : Value) (toks : List Tk) (ws : List RW) (c k : Int) (I f : Nat) (fin A : Int) (w : World)
    (hR : Rd w rb sb tv sv toks ws c k) (hb : Blk w rb (rdr sb tv I fin 0 A) 181) (hf : toks.length + 1 ≤ f) (hI : I ≤ toks.length) (hI1 : 1 ≤ I) (hk0 : 0 ≤ k) (hk1 : k ≤ 400) :
    Calls Tryz.prog 90 #[.pointer (some ⟨rb, 0, none⟩)] w (ColPost rb sb tv sv ws c k I fin A w (pColon ws k toks fin f I)) := by
  by_cases hn : nmE ws (tokS toks I) = 0
  · exact ref_colon_go rb sb tv sv toks ws c k I f fin A w hR hb hf hI1 hk0 hk1 hn
  · exact ref_colon_err1 rb sb tv sv toks ws c k I f fin A w hR hb hI hn

end Go.Proofs.YtcphhbofjkenaaaGreatDoor
