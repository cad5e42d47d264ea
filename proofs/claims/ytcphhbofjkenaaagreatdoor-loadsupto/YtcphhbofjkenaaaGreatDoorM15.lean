/- The document's answer: a do of too many, and one that goes on. -/
import Derived.Deep.AppendLies
import Derived.Deep.QuietTactic
import Derived.Test.YtcphhbofjkenaaaGreatDoorM14

namespace Go.Proofs.YtcphhbofjkenaaaGreatDoor
open Go.RowKit
set_option linter.unusedVariables false
set_option linter.unusedSimpArgs false
attribute [local go_sem] quietF

theorem lastTwo_at {l : List AI} {a b : Int} (h : lastTwo l = some (a, b)) : ∃ m, ∃ h2 : l.length = m + 2, (l[m + 1]'(by omega)).num = some b ∧ (l[m]'(by omega)).num = some a := by
  obtain ⟨h1, ⟨i, h2⟩, ⟨j, h3⟩⟩ := lastTwo_some h
  refine ⟨l.length - 2, by omega, ?_, ?_⟩
  · have e : l.length - 1 = l.length - 2 + 1 := by omega
    rw [e] at h3
    have := (List.getElem?_eq_some_iff.1 h3).2
    rw [this]
  · have := (List.getElem?_eq_some_iff.1 h2).2
    rw [this]

set_option maxHeartbeats 4000000 in
set_option maxRecDepth 100000 in
theorem ref_loop_big (rb sb : Nat) (tv sv : Value) (toks : List Tk) (ws : List RW) (c k : Int) (I f : Nat) (fin A loops : Int) (base : Nat) (v : Value) (acc : List AI) (xs : List (Array Value)) (F : Nat → Prop) (w : World)
    (hR : Rd w rb sb tv sv toks ws c k) (hb : Blk w rb (rdr sb tv I fin 0 A) 181) (hI : I < toks.length) (hAt : ItemsAt sb sv ws c k w base v acc xs F) (hal : acc.length ≤ 1100000) (a b : Int) (h2 : lastTwo acc = some (a, b)) (hab : 1000 < a - b) :
    Calls Tryz.prog 169 #[.pointer (some ⟨rb, 0, none⟩), v, .int .i64 loops] w (LoopPost rb sb tv sv ws c k fin A base v acc w (pLp ws toks fin f loops acc I)) := by
  have hr : pLp ws toks fin f loops acc I = .inr (7, plc toks fin I) := by unfold pLp; rw [h2]; simp only; rw [if_pos hab]
  rw [hr]
  obtain ⟨ad, cap, hv, hcap, hmax⟩ := row_shape hAt.row
  obtain ⟨r0, r1, r2, r3, r4, r5⟩ := hb.rdr
  have hfew := hR.few
  have HX := hidden (fun w' (h : Chg (fun k => k = rb ∧ False) w w') => ref_fails rb sb tv toks I I fin A 7 w' (by omega) (by omega) (hb.chg h (fun e => e.2)) (hR.chg (h.mono (fun _ _ e => e.1))).tok hR.tr)
  have fin' : ∀ (w1 : World), Blk w1 rb (rdr sb tv I fin 7 (plc toks fin I)) 181 → Chg (fun k => k = rb) w w1 → LoopPost rb sb tv sv ws c k fin A base v acc w (.inr (7, plc toks fin I)) (.returned v) w1 := fun w1 h1 h2 =>
    ⟨ad, acc.length, cap, I, by rw [hv], by decide, h1, h2.mono (fun k _ e => Or.inl e)⟩
  have HFIN := hidden fin'
  clear fin'
  obtain ⟨m, hm, h3, h4⟩ := lastTwo_at h2
  obtain ⟨g, cap', hv', _, hg, _, _, hcell⟩ := row_cells hAt.row (by omega)
  rw [hv] at hv'
  obtain ⟨rfl, rfl⟩ : ad = some ⟨g, 0, none⟩ ∧ cap = cap' := by simpa using hv'
  obtain ⟨x, hx, _, hk, hcc⟩ := hAt.look hv m (by omega)
  obtain ⟨y, hy, _, hky, hcy⟩ := hAt.look hv (m + 1) (by omega)
  obtain ⟨hkx, ba1, ba2⟩ := kind_some hk h4
  obtain ⟨hkz, bb1, bb2⟩ := kind_some hky h3
  have c0 := hcc 0 (.int .i64 1) (by rw [hkx]; rfl)
  have c1 := hcc 1 (.int .i64 a) (by rw [hkx]; rfl)
  have d0 := hcy 0 (.int .i64 1) (by rw [hkz]; rfl)
  have d1 := hcy 1 (.int .i64 b) (by rw [hkz]; rfl)
  obtain ⟨p, hp⟩ : ∃ p, p = m + 1 := ⟨_, rfl⟩
  rw [← hp] at d0 d1
  rw [Nat.add_zero] at c0 d0
  have c0n : w.cell? ⟨g, (acc.length - 2) * 5, none⟩ = some (.int .i64 1) := by rw [show acc.length - 2 = m by omega]; exact c0
  have c1n : w.cell? ⟨g, (acc.length - 2) * 5 + 1, none⟩ = some (.int .i64 a) := by rw [show acc.length - 2 = m by omega]; exact c1
  have hge : ¬ (acc.length : Int) < 2 := by omega
  have e1 : (acc.length : Int) - 1 = (p : Int) := by omega
  have e2 : (p : Int) < (acc.length : Int) := by omega
  have e3 : (0 : Int) ≤ (p : Int) := by omega
  have e4 : (acc.length : Int) - 2 = (m : Int) := by omega
  have e5 : (m : Int) < (acc.length : Int) := by omega
  have e6 : (0 : Int) ≤ (m : Int) := by omega
  have e7 : (p : Int) ≤ 1100000 := by omega
  have e8 : (m : Int) ≤ 1100000 := by omega
  subst hv
  clear hr h2 hAt hR hb h3 hm hp hk hcc hcell hx hv' hy hky hcy h4 hkx hkz
  go_enter Tryz.func169, Tryz.ntmps169
  go_wp2_with fail
  go_quiet (fail)
  go_wp2_with fail
  have h0 : Chg (fun k => k = rb ∧ False) w (w.drewN nq) := ⟨rfl, rfl, rfl, Nat.le_refl _, fun _ _ _ => rfl⟩
  refine (HX.out _ h0).mono ?_
  rintro e w1 ⟨rfl, hb1, hc1⟩
  have H1 := hidden hb1; have H2 := hidden ((h0.mono (fun _ _ e => e.1)).trans hc1)
  clear HX hb1 hc1 h0
  go_wp2_with fail
  go_ret
  exact HFIN.out _ H1.out H2.out

theorem ItemsAt.move2 {sb : Nat} {sv : Value} {ws : List RW} {sc sk : Int} {w w' : World} {base : Nat} {v : Value} {l : List AI} {xs : List (Array Value)} {F : Nat → Prop}
    (h : ItemsAt sb sv ws sc sk w base v l xs F) {S : Nat → Prop} (hc : Chg S w w') (hs : ∀ k, (F k ∨ v.ownBlock = some k) → ¬ S k) : ItemsAt sb sv ws sc sk w' base v l xs F :=
  ⟨h.len, ownsRow_chg h.row hc (fun k hk => hs k (Or.inr hk)), h.shape, h.kind, fun k hk => ⟨(h.fp k hk).1, Nat.lt_of_lt_of_le (h.fp k hk).2.1 hc.size, (h.fp k hk).2.2⟩,
    fun i x a h1 h2 => (h.ok i x a h1 h2).mono (fun _ => id) (fun k hk => hc.block k (h.fp k hk).2.1 (hs k (Or.inl hk)))⟩
theorem ItemsAt.lt {sb : Nat} {sv : Value} {ws : List RW} {sc sk : Int} {w : World} {base : Nat} {v : Value} {l : List AI} {xs : List (Array Value)} {F : Nat → Prop}
    (h : ItemsAt sb sv ws sc sk w base v l xs F) {k : Nat} (hk : F k ∨ v.ownBlock = some k) : base ≤ k ∧ k < w.heap.size := by
  rcases hk with hk | hk
  · exact ⟨(h.fp k hk).1, (h.fp k hk).2.1⟩
  · exact ⟨own_base h.row hk, own_lt h.row hk⟩

theorem two_new (W : World) (x y : Array Value) (t s : TypeId) : Below W.heap.size W ((W.alloc (.cells x t (0, 0))).alloc (.cells y s (0, 0))).drew ∧ Blk ((W.alloc (.cells x t (0, 0))).alloc (.cells y s (0, 0))).drew W.heap.size x t ∧ Blk ((W.alloc (.cells x t (0, 0))).alloc (.cells y s (0, 0))).drew (W.heap.size + 1) y s := by
  refine ⟨(((Below.refl _ W).alloc (Nat.le_refl _) _).alloc (by simp) _).drew, ((blk_new W x t).alloc _).drew, ?_⟩
  have := blk_new (W.alloc (.cells x t (0, 0))) y s
  simpa using this.drew

theorem newsA (W : World) (x : Array Value) (t : TypeId) : ∀ (j : Nat) (u : Value), x.toList[j]? = some u → (W.alloc (.cells x t (0, 0))).cell? ((Addr.mk W.heap.size 0 none).add j) = some u := World.news_of_block (fr := (0, 0)) (heap_alloc_new W _)
theorem Tryz.infoIt : (Tryz.prog.info? 249).map (fun i => (i.zero, i.size, i.bytes)) = some (some (.agg item0), 5, 80) := by kernel_rfl
theorem five_one {x : Array Value} (h : five x) : ∀ u ∈ x.toList, u.oneCell' = true := by
  obtain ⟨k, n, s, a1, n1, c1, a2, n2, c2, rfl⟩ := h
  intro u hu
  simp only [List.mem_cons, List.not_mem_nil, or_false] at hu
  rcases hu with rfl | rfl | rfl | rfl | rfl <;> rfl

/-- Two numbers, as items in a row. -/
def twoC (a b : Int) : Array Value := #[.int .i64 1, .int .i64 a, .string ⟨#[]⟩, .slice none 0 0, .slice none 0 0, .int .i64 1, .int .i64 b, .string ⟨#[]⟩, .slice none 0 0, .slice none 0 0]
def doC (gb : Nat) (v : Value) : Array Value := #[.int .i64 6, .int .i64 0, .string ⟨#[]⟩, v, .slice (some ⟨gb, 0, none⟩) 2 2]

set_option maxHeartbeats 4000000 in
set_option maxRecDepth 100000 in
theorem ref_loop_go (n : Nat) (ih : ItemsSaid n) (rb sb : Nat) (tv sv : Value) (toks : List Tk) (ws : List RW) (c k : Int) (I f : Nat) (fin A loops : Int) (base : Nat) (v : Value) (acc : List AI) (xs : List (Array Value)) (F : Nat → Prop) (w : World)
    (hR : Rd w rb sb tv sv toks ws c k) (hb : Blk w rb (rdr sb tv I fin 0 A) 181) (hn : toks.length + 1 - (I + 1) ≤ n) (hf : toks.length + 1 - (I + 1) ≤ f) (hI : I < toks.length) (hl : 0 ≤ loops) (hl2 : loops + 1 + (toks.length + 1 - (I + 1) : Nat) ≤ 10000000)
    (hAt : ItemsAt sb sv ws c k w base v acc xs F) (hrb : rb < base) (hbs : base ≤ w.heap.size) (hal : acc.length ≤ 1100000) (a b : Int) (h2 : lastTwo acc = some (a, b)) (hab : ¬ 1000 < a - b) :
    Calls Tryz.prog 169 #[.pointer (some ⟨rb, 0, none⟩), v, .int .i64 loops] w (LoopPost rb sb tv sv ws c k fin A base v acc w (pLp ws toks fin f loops acc I)) := by
  obtain ⟨R, hr⟩ : ∃ R, R = pLp ws toks fin f loops acc I := ⟨_, rfl⟩
  rw [← hr]
  have hr' : R = (match pItems ws toks fin f [tLoop] (loops + 1) [] (I + 1) with
      | .inr r => .inr r
      | .inl (la, _, I1) => if (infL la).net = 0 then .inl (⟨none, (Inf.plain 2 0).then ((infL la).times (max 0 (a - b)))⟩, I1) else .inr (6, plc toks fin (I1 - 1))) := by
    rw [hr, pLp, h2]; simp only; rw [if_neg hab]; rfl
  have HRR := hidden hr'
  obtain ⟨ad, cap, hv, hcap, hmax⟩ := row_shape hAt.row
  obtain ⟨r0, r1, r2, r3, r4, r5⟩ := hb.rdr
  have fr2 := hb.frozen 2
  have hfew := hR.few
  obtain ⟨m, hm, h3, h4⟩ := lastTwo_at h2
  obtain ⟨g, cap', hv', hgb, hg, _, _, hcell⟩ := row_cells hAt.row (by omega)
  rw [hv] at hv'
  obtain ⟨rfl, rfl⟩ : ad = some ⟨g, 0, none⟩ ∧ cap = cap' := by simpa using hv'
  obtain ⟨x, hx, _, hk, hcc⟩ := hAt.look hv m (by omega)
  obtain ⟨y, hy, _, hky, hcy⟩ := hAt.look hv (m + 1) (by omega)
  obtain ⟨hkx, ba1, ba2⟩ := kind_some hk h4
  obtain ⟨hkz, bb1, bb2⟩ := kind_some hky h3
  obtain ⟨p, hp⟩ : ∃ p, p = m + 1 := ⟨_, rfl⟩
  have hgr : g ≠ rb := by omega
  have c0 := hcc 0 (.int .i64 1) (by rw [hkx]; rfl)
  have c1 := hcc 1 (.int .i64 a) (by rw [hkx]; rfl)
  have d0 := hcy 0 (.int .i64 1) (by rw [hkz]; rfl)
  have d1 := hcy 1 (.int .i64 b) (by rw [hkz]; rfl)
  have HCC := hidden hcc; have HCY := hidden hcy; have HKX := hidden hkx; have HKZ := hidden hkz
  rw [← hp] at d0 d1
  rw [Nat.add_zero] at c0 d0
  have c0n : w.cell? ⟨g, (acc.length - 2) * 5, none⟩ = some (.int .i64 1) := by rw [show acc.length - 2 = m by omega]; exact c0
  have c1n : w.cell? ⟨g, (acc.length - 2) * 5 + 1, none⟩ = some (.int .i64 a) := by rw [show acc.length - 2 = m by omega]; exact c1
  have hge : ¬ (acc.length : Int) < 2 := by omega
  have e1 : (acc.length : Int) - 1 = (p : Int) := by omega
  have e2 : (p : Int) < (acc.length : Int) := by omega
  have e3 : (0 : Int) ≤ (p : Int) := by omega
  have e4 : (acc.length : Int) - 2 = (m : Int) := by omega
  have e5 : (m : Int) < (acc.length : Int) := by omega
  have e6 : (0 : Int) ≤ (m : Int) := by omega
  have e7 : (p : Int) ≤ 1100000 := by omega
  have e8 : (m : Int) ≤ 1100000 := by omega
  have e9 : (I : Int) ≤ 1100000 := by omega
  have e10 : (0 : Int) ≤ (I : Int) := by omega
  have e11 : loops ≤ 10000000 := by omega
  have HR := hidden hR; have HB := hidden hb; have HAT0 := hidden hAt; have HV := hidden hv; have HP := hidden hp; have HN := hidden hn; have HF := hidden hf; have HM := hidden hm; have IH := hidden ih; have HIW := hidden hI; have HL2 := hidden hl2
  subst hv
  clear hr hr' h2 hAt hR hb h3 hm hp hk hcc hcell hx hv' hy hky hcy h4 hkx hkz hn hf hI hl2 ih
  go_enter Tryz.func169, Tryz.ntmps169
  go_wp2_with fail
  go_quiet (fail)
  go_upto_region 9 with fail
  obtain ⟨W, hWd⟩ : ∃ W : World, W = (w.drewN nq).setCell ⟨rb, 2, none⟩ (.int .i64 ((I : Int) + 1)) := ⟨_, rfl⟩
  rw [← hWd]
  have h0 : Chg (fun b => b = rb) w (w.drewN nq) := ⟨rfl, rfl, rfl, Nat.le_refl _, fun _ _ _ => rfl⟩
  have hbq : Blk (w.drewN nq) rb (rdr sb tv I fin 0 A) 181 := HB.out
  have hCW : Chg (fun b => b = rb) w W := by rw [hWd]; exact h0.setCell (p := ⟨rb, 2, none⟩) rfl _
  have hsW : W.heap.size = w.heap.size := by rw [hWd]; simp [World.setCell]
  have hbW : Blk W rb (rdr sb tv ((I + 1 : Nat) : Int) fin 0 A) 181 := by rw [hWd]; have := hbq.set (o := 2) (.int .i64 ((I : Int) + 1)); simpa [rdr] using this
  have hAtW := HAT0.out.move hCW (fun k hk e => by omega)
  have HAT := hidden hAtW; have HCW := hidden hCW; have HBW := hidden hbW
  clear hWd h0 hbq hCW hbW hAtW
  have k0 : W.cell? ⟨g, m * 5, none⟩ = some (.int .i64 1) := (HCW.out.cell (p := ⟨g, m * 5, none⟩) hg hgr).trans c0
  have k1 : W.cell? ⟨g, m * 5 + 1, none⟩ = some (.int .i64 a) := (HCW.out.cell (p := ⟨g, m * 5 + 1, none⟩) hg hgr).trans c1
  have k2 : W.cell? ⟨g, m * 5 + 2, none⟩ = some (.string ⟨#[]⟩) := (HCW.out.cell (p := ⟨g, m * 5 + 2, none⟩) hg hgr).trans (HCC.out 2 _ (by rw [HKX.out]; rfl))
  have k3 : W.cell? ⟨g, m * 5 + 3, none⟩ = some (.slice none 0 0) := (HCW.out.cell (p := ⟨g, m * 5 + 3, none⟩) hg hgr).trans (HCC.out 3 _ (by rw [HKX.out]; rfl))
  have k4 : W.cell? ⟨g, m * 5 + 4, none⟩ = some (.slice none 0 0) := (HCW.out.cell (p := ⟨g, m * 5 + 4, none⟩) hg hgr).trans (HCC.out 4 _ (by rw [HKX.out]; rfl))
  have j0 : W.cell? ⟨g, p * 5, none⟩ = some (.int .i64 1) := (HCW.out.cell (p := ⟨g, p * 5, none⟩) hg hgr).trans d0
  have j1 : W.cell? ⟨g, p * 5 + 1, none⟩ = some (.int .i64 b) := (HCW.out.cell (p := ⟨g, p * 5 + 1, none⟩) hg hgr).trans d1
  have j2 : W.cell? ⟨g, p * 5 + 2, none⟩ = some (.string ⟨#[]⟩) := by rw [HP.out]; exact (HCW.out.cell (p := ⟨g, (m + 1) * 5 + 2, none⟩) hg hgr).trans (HCY.out 2 _ (by rw [HKZ.out]; rfl))
  have j3 : W.cell? ⟨g, p * 5 + 3, none⟩ = some (.slice none 0 0) := by rw [HP.out]; exact (HCW.out.cell (p := ⟨g, (m + 1) * 5 + 3, none⟩) hg hgr).trans (HCY.out 3 _ (by rw [HKZ.out]; rfl))
  have j4 : W.cell? ⟨g, p * 5 + 4, none⟩ = some (.slice none 0 0) := by rw [HP.out]; exact (HCW.out.cell (p := ⟨g, (m + 1) * 5 + 4, none⟩) hg hgr).trans (HCY.out 4 _ (by rw [HKZ.out]; rfl))
  have hgW : g < W.heap.size := by omega
  have k0n : W.cell? ⟨g, (acc.length - 2) * 5, none⟩ = some (.int .i64 1) := by rw [show acc.length - 2 = m by omega]; exact k0
  have k1n : W.cell? ⟨g, (acc.length - 2) * 5 + 1, none⟩ = some (.int .i64 a) := by rw [show acc.length - 2 = m by omega]; exact k1
  have k2n : W.cell? ⟨g, (acc.length - 2) * 5 + 2, none⟩ = some (.string ⟨#[]⟩) := by rw [show acc.length - 2 = m by omega]; exact k2
  have k3n : W.cell? ⟨g, (acc.length - 2) * 5 + 3, none⟩ = some (.slice none 0 0) := by rw [show acc.length - 2 = m by omega]; exact k3
  have k4n : W.cell? ⟨g, (acc.length - 2) * 5 + 4, none⟩ = some (.slice none 0 0) := by rw [show acc.length - 2 = m by omega]; exact k4
  clear c0 c1 d0 d1 r0 r1 r2 r3 r4 r5 fr2 c0n c1n
  go_cut [8] (fun s8 wx => ∃ xb gb : Nat, s8 = .pointer (some ⟨xb, 0, none⟩) ∧ w.heap.size ≤ xb ∧ w.heap.size ≤ gb ∧ xb ≠ gb ∧ Below w.heap.size W wx ∧ Blk wx xb (doC gb (.slice none 0 0)) 249 ∧ Blk wx gb (twoC a b) 249)
  case first =>
    have T1 := hidden (two_new W (twoC a b) (doC w.heap.size (.slice none 0 0)) 249 249)
    have T2 := hidden (two_new W (doC (w.heap.size + 1) (.slice none 0 0)) (twoC a b) 249 249)
    rw [hsW] at T1 T2
    go_region
    · go_wp2_with fail
      go_meet
      exact ⟨w.heap.size + 1, w.heap.size, rfl, by omega, by omega, by omega, T1.out.1, T1.out.2.2, T1.out.2.1⟩
    · go_wp2_with fail
      go_meet
      exact ⟨w.heap.size, w.heap.size + 1, rfl, by omega, by omega, by omega, T2.out.1, T2.out.2.1, T2.out.2.2⟩
  case rest =>
    obtain ⟨xb, gb, rfl, hx1, hx2, hxg, hbel, hbx, hbg⟩ := hcut
    obtain ⟨i0, hi, hz0, hz1, hz2⟩ := info_parts Tryz.infoIt
    have hrw : rb < w.heap.size := HB.out.lt
    have hbelW : Below W.heap.size W wc := by rw [hsW]; exact hbel
    have hbrc : Blk wc rb (rdr sb tv ((I + 1 : Nat) : Int) fin 0 A) 181 := (hbel.block _ hrw).trans HBW.out
    have hCwc : Chg (fun b => b = rb) w wc := HCW.out.trans (Chg.ofBelow hbelW)
    have hV : Chg (fun b => b = rb) w (wc.alloc (.cells #[.string tLoop] 9 (0, 0))) := hCwc.alloc _
    have hAtc : ItemsAt sb sv ws c k wc base (.slice (some ⟨g, 0, none⟩) acc.length cap) acc xs F := HAT.out.move2 (Chg.ofBelow (S := fun _ => False) hbelW) (fun _ _ => id)
    have hI2 := IH.out rb sb tv sv toks ws c k (I + 1) f fin A (loops + 1) [tLoop] wc.heap.size 1 _ (HR.out.chg hV) (hbrc.alloc _) HN.out HF.out HIW.out (by omega) HL2.out (by decide) (by decide) (by have := hCwc.size; omega) (by
      intro j hj
      have hj0 : j = 0 := by simp at hj; omega
      subst hj0
      simp)
    have hxc : xb < wc.heap.size := hbx.lt
    have hgc : gb < wc.heap.size := hbg.lt
    have HI2 := hidden hI2; have HBX := hidden hbx; have HBG := hidden hbg; have HV := hidden hV; have HATC := hidden hAtc
    have hFlt : ∀ k, (F k ∨ (Value.slice (some ⟨g, 0, none⟩) acc.length cap).ownBlock = some k) → base ≤ k ∧ k < w.heap.size := fun k hk => by have := HAT0.out.lt hk; exact this
    have HFLT := hidden hFlt
    clear hI2 hbel hbelW hbrc hCwc hV hbx hbg hAtc k0 k1 k2 k3 k4 j0 j1 j2 j3 j4 k0n k1n k2n k3n k4n hFlt
    go_wp2_with fail
    refine HI2.out.mono ?_
    clear HI2
    intro e w5 hP
    obtain ⟨pp, hpp⟩ : ∃ pp, pp = pItems ws toks fin f [tLoop] (loops + 1) [] (I + 1) := ⟨_, rfl⟩
    have hR2 := HRR.out
    rw [← hpp] at hR2 hP
    have HPP := hidden hpp
    clear hpp HRR
    rcases pp with ⟨la, ta, I1⟩ | ⟨E, P⟩
    · obtain ⟨v2, xs2, F2, rfl, hB5, hC5, hAt2⟩ := hP
      obtain ⟨ad2, cap2, rfl, hcap5, hcap6⟩ := row_shape hAt2.row
      have hp5 := pItems_ok ws toks fin HR.out.wok f [tLoop] (loops + 1) [] (I + 1) _ _ _ HPP.out.symm ends3 (WtL.nil 0)
      simp only [List.length_nil, Nat.zero_add] at hp5
      have H5 := hidden hp5
      have hq3 : I + 1 < I1 := hp5.1
      have hq4 : I1 ≤ toks.length := hp5.2.1
      have hs5 : wc.heap.size + 1 ≤ w5.heap.size := by have := hC5.size; simpa using this
      obtain ⟨X, hXd⟩ : ∃ X : World, X = w5.setCell ⟨xb, 3, none⟩ (.slice ad2 la.length cap2) := ⟨_, rfl⟩
      have hCX : Chg (fun b => b = xb) w5 X := by rw [hXd]; exact (Chg.refl (fun b => b = xb) w5).setCell (p := ⟨xb, 3, none⟩) rfl _
      have hsX : X.heap.size = w5.heap.size := by rw [hXd]; simp [World.setCell]
      have hz1' : Blk w5 xb (doC gb (.slice none 0 0)) 249 := (HBX.out.alloc _).chg hC5 (by omega)
      have f3 := hz1'.frozen 3
      have x3' : w5.cell? ⟨xb, 3, none⟩ = some (.slice none 0 0) := hz1'.cell 3 _ rfl
      have hbx : Blk X xb (doC gb (.slice ad2 la.length cap2)) 249 := by
        rw [hXd]; have := hz1'.set (o := 3) (.slice ad2 la.length cap2); simpa [doC] using this
      have hbg : Blk X gb (twoC a b) 249 := ((HBG.out.alloc _).chg hC5 (by omega)).chg hCX (by omega)
      have hbr : Blk X rb (rdr sb tv I1 fin 0 A) 181 := hB5.chg hCX (by omega)
      have hCXw : Chg (fun b => b = rb) w X := (HV.out.trans hC5).trans_ge (hCX.mono (fun k _ hk => by omega))
      have hLO2 : ∀ b, (F2 b ∨ (Value.slice ad2 la.length cap2).ownBlock = some b) → wc.heap.size + 1 ≤ b ∧ b < w5.heap.size := fun b hb => by
        have := hAt2.lt hb; simpa using this
      have hAtX : ItemsAt sb sv ws c k X base (.slice (some ⟨g, 0, none⟩) acc.length cap) acc xs F := (HAT0.out.move hCXw (fun k hk e => by omega))
      have hAt2X := hAt2.move2 hCX (fun k hk e => by have := hLO2 k hk; omega)
      have hall : ∀ w', Below X.heap.size X w' → Calls Tryz.prog 130 #[.pointer (some ⟨sb, 0, none⟩), .slice ad2 la.length cap2] w' fun e w'' => e = .returned (infL la).val ∧ Below w'.heap.size w' w'' := fun w' hb' =>
        hAt2X.later hp5.2.2.2 (by omega) (by have := hp5.2.2.1; omega) X (fun k _ => rfl) (Or.inr trivial) (HR.out.chg hCXw).sys w' hb'
      obtain ⟨pa, hpa⟩ : ∃ p, p = infL la := ⟨_, rfl⟩
      simp only at hR2
      rw [← hpa] at hR2
      have HPA := hidden hpa
      have hall2 : ∀ w', Below X.heap.size X w' → Calls Tryz.prog 130 #[.pointer (some ⟨sb, 0, none⟩), .slice ad2 la.length cap2] w' fun e w'' => e = .returned (.agg #[.int .i64 pa.need, .int .i64 pa.net, .int .i64 pa.high, .int .i64 pa.steps, .bool pa.str]) ∧ Below w'.heap.size w' w'' := by
        rw [hpa]; exact hall
      obtain ⟨r0, r1, r2, r3, r4, r5⟩ := hB5.rdr
      have HALL := hidden hall2; have HBX2 := hidden hbx; have HBG2 := hidden hbg; have HBR := hidden hbr; have HCX := hidden hCXw; have HLO2 := hidden hLO2; have HATX := hidden hAtX; have HAT2 := hidden hAt2X; have HR2 := hidden hR2
      clear hall hall2 hpa hbx hbg hbr hCXw hLO2 hAtX hAt2X hAt2 hC5 hB5 hp5 hz1' hCX hR2
      go_wp2_with fail
      rw [← hXd]
      have HSX := hidden hsX
      clear hXd r0 r1 r2 r3 r4 r5 x3' f3 hsX
      obtain ⟨r0, r1, r2, r3, r4, r5⟩ := HBR.out.rdr
      have x3 : X.cell? ⟨xb, 3, none⟩ = some (.slice ad2 la.length cap2) := HBX2.out.cell 3 _ rfl
      have hne := UndA.ne X.heap.size X zero5 36 (Nat.le_refl _)
      have hcr : ∀ (S : Option Nat) (u : UndA X.heap.size X zero5 36 S), u.val.cell? ⟨rb, 0, none⟩ = some (.pointer (some ⟨sb, 0, none⟩)) := fun S u => u.cell r0 (World.block_lt_of_cell? X _ r0)
      have hcx : ∀ (S : Option Nat) (u : UndA X.heap.size X zero5 36 S), u.val.cell? ⟨xb, 3, none⟩ = some (.slice ad2 la.length cap2) := fun S u => u.cell x3 (World.block_lt_of_cell? X _ x3)
      refine wp_region_new zero5 36 7 (by kernel_rfl) (by kernel_rfl) rfl (fun _ => rfl) (fun a w => by simp [go_sem, zero5]) ?_
      simp only [List.take_succ_cons, List.take_zero, List.drop_succ_cons, List.drop_zero]
      repeat (refine wpQuietF_step (fun K hK => ?_); go_simp; first | (refine hK _ ?_; clear hK K) | (apply Exists.intro; refine ⟨fun S u => ?_, hK _ ?_⟩; (go_at_call 130; exact UndA.calls (Nat.le_refl _) u (HALL.out _ u.below)); clear hK K))
      refine wpQuietF_nil ?_
      intro b1 w2 hb1 hbel2 hblk
      obtain ⟨d0, d1, d2, d3, d4⟩ := hblk.zero
      obtain ⟨g0, g1, g2, g3, g4⟩ := hblk.free
      have hlt2 := hblk.lt
      obtain ⟨Y, hY⟩ : ∃ Y : World, Y = ((((w2.setCell ⟨b1, 0, none⟩ (.int .i64 pa.need)).setCell ⟨b1, 1, none⟩ (.int .i64 pa.net)).setCell ⟨b1, 2, none⟩ (.int .i64 pa.high)).setCell ⟨b1, 3, none⟩ (.int .i64 pa.steps)).setCell ⟨b1, 4, none⟩ (.bool pa.str) := ⟨_, rfl⟩
      have hblkY : Blk Y b1 pa.arr 36 := by rw [hY]; exact blk_set5 hblk _ _ _ _ _
      have hbelY : Below X.heap.size X Y := by rw [hY]; exact ((((hbel2.setCell hb1 _).setCell hb1 _).setCell hb1 _).setCell hb1 _).setCell hb1 _
      have HKY := hidden hblkY; have HBY := hidden hbelY
      clear hcr hcx hne hblk hbel2 hblkY hbelY r0 r1 r2 r3 r4 r5 x3
      go_simp
      go_upto_region 14 with fail
      rw [← hY]
      clear hY d0 d1 d2 d3 d4 g0 g1 g2 g3 g4
      have hsY := HBY.out.size
      have hCY : Chg (fun b => b = rb) w Y := HCX.out.trans (Chg.ofBelow HBY.out)
      have hbrY : Blk Y rb (rdr sb tv I1 fin 0 A) 181 := (HBY.out.block _ HBR.out.lt).trans HBR.out
      have hbxY : Blk Y xb (doC gb (.slice ad2 la.length cap2)) 249 := (HBY.out.block _ HBX2.out.lt).trans HBX2.out
      have hbgY : Blk Y gb (twoC a b) 249 := (HBY.out.block _ HBG2.out.lt).trans HBG2.out
      have hAtY := HATX.out.move2 (Chg.ofBelow (S := fun _ => False) HBY.out) (fun _ _ => id)
      obtain ⟨m0, m1, m2, m3, m4⟩ := HKY.out.inf
      obtain ⟨r0, r1, r2, r3, r4, r5⟩ := hbrY.rdr
      have HCY := hidden hCY; have HBRY := hidden hbrY; have HBXY := hidden hbxY; have HBGY := hidden hbgY; have HATY := hidden hAtY
      clear hCY hbrY hbxY hbgY hAtY
      have hwX : w.heap.size ≤ X.heap.size := HCX.out.size
      by_cases hnet : pa.net = 0
      · have hnb : (pa.net != 0) = false := by simpa using hnet
        have HRe : Hid (R = .inl (⟨none, (Inf.plain 2 0).then (pa.times (max 0 (a - b)))⟩, I1)) := by show R = _; rw [HR2.out, if_pos hnet]
        clear hnet
        have x0 : Y.cell? ⟨xb, 0, none⟩ = some (.int .i64 6) := HBXY.out.cell 0 _ rfl
        have x1 : Y.cell? ⟨xb, 1, none⟩ = some (.int .i64 0) := HBXY.out.cell 1 _ rfl
        have x2 : Y.cell? ⟨xb, 2, none⟩ = some (.string ⟨#[]⟩) := HBXY.out.cell 2 _ rfl
        have x3 : Y.cell? ⟨xb, 3, none⟩ = some (.slice ad2 la.length cap2) := HBXY.out.cell 3 _ rfl
        have x4 : Y.cell? ⟨xb, 4, none⟩ = some (.slice (some ⟨gb, 0, none⟩) 2 2) := HBXY.out.cell 4 _ rfl
        have HROW := hidden (HATY.out.move2 ((Chg.refl (fun _ => False) Y).alloc (.cells (doC gb (.slice ad2 la.length cap2)) 249 (0, 0))) (fun _ _ => id))
        have HNEW := hidden (newsA Y (doC gb (.slice ad2 la.length cap2)) 249)
        have HONE := hidden (five_one (x := doC gb (.slice ad2 la.length cap2)) ⟨6, 0, ⟨#[]⟩, ad2, la.length, cap2, some ⟨gb, 0, none⟩, 2, 2, rfl⟩)
        have H63 := hidden (show acc.length + 1 ≤ maxLen by unfold maxLen; omega)
        have H64 := hidden (show (acc.length + 1) * 80 ≤ 140737488355328 by omega)
        have HBASE := hidden (show base ≤ (Y.alloc (.cells (doC gb (.slice ad2 la.length cap2)) 249 (0, 0))).heap.size by simp; omega)
        have HHH := hidden (show (Y.alloc (.cells (doC gb (.slice ad2 la.length cap2)) 249 (0, 0))).heap.size = Y.heap.size + 1 by simp)
        go_wp2_with (at_builtin; refine wpList_append_lies _ rfl _ _ 184 rfl base 249 i0 (.agg item0) 5 80 Tryz.underlying184 hi hz0 hz1 hz2 rfl (by decide) _ acc.length (xs.flatMap Array.toList) rfl HROW.out.row ⟨Y.heap.size, 0, none⟩ 1 1 (doC gb (.slice ad2 la.length cap2)).toList rfl rfl HNEW.out HONE.out (by decide) H63.out H64.out HBASE.out (Y.heap.size + 1) HHH.out ?_)
        intro g2 cap3 w6 hown hgrow hat hlt6
        clear x0 x1 x2 x3 x4 m0 m1 m2 m3 m4 r0 r1 r2 r3 r4 r5
        have HOWN := hidden hown; have HGROW := hidden hgrow; have HATT := hidden hat
        clear hown hgrow hat
        go_wp2_with fail
        go_ret
        rw [HRe.out]
        have hsz := HGROW.out.size
        refine ⟨_, xs ++ [doC gb (.slice ad2 la.length cap2)], fun k => F k ∨ ((F2 k ∨ (Value.slice ad2 la.length cap2).ownBlock = some k) ∨ k = gb), rfl, ?_, ?_, ?_⟩
        · exact (HGROW.out.block rb (by have := HBRY.out.lt; simp; omega) (by simp [Value.ownBlock]; omega)).trans ((HBRY.out.alloc _))
        · exact ((HCY.out.alloc _).mono (fun k _ e => Or.inl e)).trans ((Chg.ofGrown HGROW.out).mono (fun k _ e => Or.inr e.symm))
        · have hGlo : ∀ k, ((F2 k ∨ (Value.slice ad2 la.length cap2).ownBlock = some k) ∨ k = gb) → w.heap.size ≤ k ∧ k < X.heap.size := by
            rintro k (hk | rfl)
            · have := HLO2.out k hk; have := HCX.out.size; have := HSX.out; exact ⟨by omega, by omega⟩
            · exact ⟨hx2, HBG2.out.lt⟩
          refine HROW.out.snoc (G := fun k => (F2 k ∨ (Value.slice ad2 la.length cap2).ownBlock = some k) ∨ k = gb) ⟨6, 0, ⟨#[]⟩, ad2, la.length, cap2, some ⟨gb, 0, none⟩, 2, 2, rfl⟩ ⟨6, rfl, by decide⟩ (fun k hk => ?_) ?_ HOWN.out HGROW.out ?_
          · have := hGlo k hk
            exact ⟨by omega, by simp; omega, by simp [Value.ownBlock]; omega⟩
          · intro w' hF hsys
            have hsame : ∀ k, ((F2 k ∨ (Value.slice ad2 la.length cap2).ownBlock = some k) ∨ k = gb) → w'.heap[k]? = X.heap[k]? := fun k hk => by
              have hlo := hGlo k hk
              rw [hF k hk, Below.heap_alloc Y _ k (by omega), HBY.out.block k hlo.2]
            have hbgw : Blk w' gb (twoC a b) 249 := (hsame gb (Or.inr rfl)).trans HBG2.out
            have hq1 := H5.out.2.2.2
            have hA := fun w2 hb => HAT2.out.later hq1 (by have := H5.out.2.1; omega) (by have := H5.out.2.2.1; have := H5.out.2.1; omega) w' (fun k hk => hsame k (Or.inl hk)) (Or.inr trivial) hsys w2 hb
            rw [← HPA.out] at hA
            have hwt : pa.Ok := by rw [HPA.out]; exact (infL_wt hq1).ok (by omega) (by have := H5.out.2.1; omega)
            exact ref_of_do sb _ _ _ gb 2 a b rfl rfl rfl pa hwt w' (by omega) ba1 ba2 bb1 bb2 (by omega) (hbgw.cell 1 _ rfl) (hbgw.cell 6 _ rfl) hA
          · rcases HATT.out with h | h
            · exact Or.inl (by simp [Value.ownBlock] at h ⊢; omega)
            · exact Or.inr (by simp [Value.ownBlock, h])
      · have hnb : (pa.net != 0) = true := by simpa using hnet
        have HRe : Hid (R = .inr (6, plc toks fin (I1 - 1))) := by show R = _; rw [HR2.out, if_neg hnet]
        clear hnet
        have b1' : (I1 : Int) ≤ 1100000 := by omega
        have b2' : (1 : Int) ≤ (I1 : Int) := by omega
        go_wp2_with fail
        have hI1' : (I1 : Int) - 1 = ((I1 - 1 : Nat) : Int) := by omega
        rw [hI1']
        have hRd3 := HR.out.chg HCY.out
        refine (ref_fails rb sb tv toks (I1 - 1) I1 fin A 6 Y (by omega) (by omega) HBRY.out hRd3.tok hRd3.tr).mono ?_
        rintro e w7 ⟨rfl, hb7, hc7⟩
        have hbx7 : Blk w7 xb (doC gb (.slice ad2 la.length cap2)) 249 := HBXY.out.chg hc7 (by omega)
        have hC7 := HCY.out.trans hc7
        have hAt7 := HAT0.out.move hC7 (fun k hk e => by omega)
        have HB7 := hidden hb7; have HC7 := hidden hC7; have HAT7 := hidden hAt7
        clear hI1' hRd3 hb7 hc7 hC7 hAt7 m0 m1 m2 m3 m4 r0 r1 r2 r3 r4 r5
        have x0 : w7.cell? ⟨xb, 0, none⟩ = some (.int .i64 6) := hbx7.cell 0 _ rfl
        have x1 : w7.cell? ⟨xb, 1, none⟩ = some (.int .i64 0) := hbx7.cell 1 _ rfl
        have x2 : w7.cell? ⟨xb, 2, none⟩ = some (.string ⟨#[]⟩) := hbx7.cell 2 _ rfl
        have x3 : w7.cell? ⟨xb, 3, none⟩ = some (.slice ad2 la.length cap2) := hbx7.cell 3 _ rfl
        have x4 : w7.cell? ⟨xb, 4, none⟩ = some (.slice (some ⟨gb, 0, none⟩) 2 2) := hbx7.cell 4 _ rfl
        have hs7 : base ≤ w7.heap.size := by have := HC7.out.size; omega
        have HROW := hidden (HAT7.out.move2 ((Chg.refl (fun _ => False) w7).alloc (.cells (doC gb (.slice ad2 la.length cap2)) 249 (0, 0))) (fun _ _ => id))
        have HNEW := hidden (newsA w7 (doC gb (.slice ad2 la.length cap2)) 249)
        have HONE := hidden (five_one (x := doC gb (.slice ad2 la.length cap2)) ⟨6, 0, ⟨#[]⟩, ad2, la.length, cap2, some ⟨gb, 0, none⟩, 2, 2, rfl⟩)
        have H63 := hidden (show acc.length + 1 ≤ maxLen by unfold maxLen; omega)
        have H64 := hidden (show (acc.length + 1) * 80 ≤ 140737488355328 by omega)
        have HBASE := hidden (show base ≤ (w7.alloc (.cells (doC gb (.slice ad2 la.length cap2)) 249 (0, 0))).heap.size by simp; omega)
        have HHH := hidden (show (w7.alloc (.cells (doC gb (.slice ad2 la.length cap2)) 249 (0, 0))).heap.size = w7.heap.size + 1 by simp)
        clear hbx7
        go_wp2_with (at_builtin; refine wpList_append_lies _ rfl _ _ 184 rfl base 249 i0 (.agg item0) 5 80 Tryz.underlying184 hi hz0 hz1 hz2 rfl (by decide) _ acc.length (xs.flatMap Array.toList) rfl HROW.out.row ⟨w7.heap.size, 0, none⟩ 1 1 (doC gb (.slice ad2 la.length cap2)).toList rfl rfl HNEW.out HONE.out (by decide) H63.out H64.out HBASE.out (w7.heap.size + 1) HHH.out ?_)
        intro g2 cap3 w6 hown hgrow hat hlt6
        clear x0 x1 x2 x3 x4 hown hat
        have HGROW := hidden hgrow
        clear hgrow
        go_wp2_with fail
        go_ret
        rw [HRe.out]
        refine ⟨_, _, _, I1, rfl, by decide, ?_, ?_⟩
        · exact (HGROW.out.block rb (by have := HB7.out.lt; simp; omega) (by simp [Value.ownBlock]; omega)).trans ((HB7.out.alloc _))
        · exact ((HC7.out.alloc _).mono (fun k _ e => Or.inl e)).trans ((Chg.ofGrown HGROW.out).mono (fun k _ e => Or.inr e.symm))
    · obtain ⟨ad2, n2, cap2, I', rfl, hE, hB5, hC5⟩ := hP
      have hs5 : wc.heap.size + 1 ≤ w5.heap.size := by have := hC5.size; simpa using this
      obtain ⟨X, hXd⟩ : ∃ X : World, X = w5.setCell ⟨xb, 3, none⟩ (.slice ad2 n2 cap2) := ⟨_, rfl⟩
      have hCX : Chg (fun b => b = xb) w5 X := by rw [hXd]; exact (Chg.refl (fun b => b = xb) w5).setCell (p := ⟨xb, 3, none⟩) rfl _
      have hsX : X.heap.size = w5.heap.size := by rw [hXd]; simp [World.setCell]
      have hz1' : Blk w5 xb (doC gb (.slice none 0 0)) 249 := (HBX.out.alloc _).chg hC5 (by omega)
      have f3 := hz1'.frozen 3
      have x3' : w5.cell? ⟨xb, 3, none⟩ = some (.slice none 0 0) := hz1'.cell 3 _ rfl
      have hbx : Blk X xb (doC gb (.slice ad2 n2 cap2)) 249 := by
        rw [hXd]; have := hz1'.set (o := 3) (.slice ad2 n2 cap2); simpa [doC] using this
      have hbr : Blk X rb (rdr sb tv I' fin E P) 181 := hB5.chg hCX (by omega)
      have hCXw : Chg (fun b => b = rb) w X := (HV.out.trans hC5).trans_ge (hCX.mono (fun k _ hk => by omega))
      have hAtX : ItemsAt sb sv ws c k X base (.slice (some ⟨g, 0, none⟩) acc.length cap) acc xs F := (HAT0.out.move hCXw (fun k hk e => by omega))
      have hEb : (E == 0) = false := by simpa using hE
      obtain ⟨r0, r1, r2, r3, r4, r5⟩ := hB5.rdr
      have HBX2 := hidden hbx; have HBR := hidden hbr; have HCX := hidden hCXw; have HATX := hidden hAtX; have HE := hidden hE
      have HR2 : Hid (R = .inr (E, P)) := hR2
      clear hbx hbr hCXw hAtX hC5 hB5 hz1' hCX hR2 hE
      go_upto_region 12 with fail
      rw [← hXd]
      clear hXd r0 r1 r2 r3 r4 r5 x3' f3
      obtain ⟨r0, r1, r2, r3, r4, r5⟩ := HBR.out.rdr
      have x0 : X.cell? ⟨xb, 0, none⟩ = some (.int .i64 6) := HBX2.out.cell 0 _ rfl
      have x1 : X.cell? ⟨xb, 1, none⟩ = some (.int .i64 0) := HBX2.out.cell 1 _ rfl
      have x2 : X.cell? ⟨xb, 2, none⟩ = some (.string ⟨#[]⟩) := HBX2.out.cell 2 _ rfl
      have x3 : X.cell? ⟨xb, 3, none⟩ = some (.slice ad2 n2 cap2) := HBX2.out.cell 3 _ rfl
      have x4 : X.cell? ⟨xb, 4, none⟩ = some (.slice (some ⟨gb, 0, none⟩) 2 2) := HBX2.out.cell 4 _ rfl
      have hs7 : base ≤ X.heap.size := by have := HCX.out.size; omega
      have HROW := hidden (HATX.out.move2 ((Chg.refl (fun _ => False) X).alloc (.cells (doC gb (.slice ad2 n2 cap2)) 249 (0, 0))) (fun _ _ => id))
      have HNEW := hidden (newsA X (doC gb (.slice ad2 n2 cap2)) 249)
      have HONE := hidden (five_one (x := doC gb (.slice ad2 n2 cap2)) ⟨6, 0, ⟨#[]⟩, ad2, n2, cap2, some ⟨gb, 0, none⟩, 2, 2, rfl⟩)
      have H63 := hidden (show acc.length + 1 ≤ maxLen by unfold maxLen; omega)
      have H64 := hidden (show (acc.length + 1) * 80 ≤ 140737488355328 by omega)
      have HBASE := hidden (show base ≤ (X.alloc (.cells (doC gb (.slice ad2 n2 cap2)) 249 (0, 0))).heap.size by simp; omega)
      have HHH := hidden (show (X.alloc (.cells (doC gb (.slice ad2 n2 cap2)) 249 (0, 0))).heap.size = X.heap.size + 1 by simp)
      have HSX := hidden hsX
      clear hsX
      go_wp2_with (at_builtin; refine wpList_append_lies _ rfl _ _ 184 rfl base 249 i0 (.agg item0) 5 80 Tryz.underlying184 hi hz0 hz1 hz2 rfl (by decide) _ acc.length (xs.flatMap Array.toList) rfl HROW.out.row ⟨X.heap.size, 0, none⟩ 1 1 (doC gb (.slice ad2 n2 cap2)).toList rfl rfl HNEW.out HONE.out (by decide) H63.out H64.out HBASE.out (X.heap.size + 1) HHH.out ?_)
      intro g2 cap3 w6 hown hgrow hat hlt6
      clear x0 x1 x2 x3 x4 hown hat r0 r1 r2 r3 r4 r5
      have HGROW := hidden hgrow
      clear hgrow
      go_wp2_with fail
      go_ret
      rw [HR2.out]
      refine ⟨_, _, _, I', rfl, HE.out, ?_, ?_⟩
      · exact (HGROW.out.block rb (by have := HBR.out.lt; simp; omega) (by simp [Value.ownBlock]; omega)).trans ((HBR.out.alloc _))
      · exact ((HCX.out.alloc _).mono (fun k _ e => Or.inl e)).trans ((Chg.ofGrown HGROW.out).mono (fun k _ e => Or.inr e.symm))

end Go.Proofs.YtcphhbofjkenaaaGreatDoor
