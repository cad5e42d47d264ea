/- The document's answer: tasks; what goes ahead; the demand. -/
import Derived.BigQuiet
import Derived.Test.YtcphhbofjkenaaaGreatDoorM01
import Derived.Test.YtcphhbofjkenaaaGreatDoorM36

namespace Go.Proofs.YtcphhbofjkenaaaGreatDoor
open Go Go.RowKit
set_option linter.unusedVariables false
set_option linter.unusedSimpArgs false

/-- Tasks in memory. -/
def TasksAt (w : World) (pb po : Nat) (l : List TK) : Prop := pb < w.heap.size ∧ ∀ (j : Nat) (u : Value), (l.flatMap TK.cells)[j]? = some u → w.cell? ⟨pb, po + j, none⟩ = some u

theorem TasksAt.below {B : Nat} {w w' : World} {pb po : Nat} {l : List TK} (h : TasksAt w pb po l) (hb : Below B w w') (hB : pb < B) : TasksAt w' pb po l :=
  ⟨Nat.lt_of_lt_of_le h.1 hb.size, fun j u hu => by rw [hb.cell (p := ⟨pb, po + j, none⟩) hB]; exact h.2 j u hu⟩

theorem TasksAt.cells {w : World} {pb po : Nat} {l : List TK} (h : TasksAt w pb po l) (k : Nat) (hk : k < l.length) :
    w.cell? ⟨pb, po + k * 4, none⟩ = some (.string l[k].word) ∧ w.cell? ⟨pb, po + k * 4 + 1, none⟩ = some (.int .i64 l[k].per) ∧ w.cell? ⟨pb, po + k * 4 + 2, none⟩ = some (.int .i64 l[k].dl) ∧ w.cell? ⟨pb, po + k * 4 + 3, none⟩ = some (.int .i64 l[k].off) := by
  have q : ∀ m u, m < 4 → (l[k].cells)[m]? = some u → w.cell? ⟨pb, po + k * 4 + m, none⟩ = some u := fun m u hm hu => by
    rw [Nat.add_assoc]
    refine h.2 _ _ ?_
    rw [flat_get TK.cells 4 (fun _ => rfl) l k m hk hm]; exact hu
  exact ⟨by have := q 0 _ (by omega) rfl; simpa using this, q 1 _ (by omega) rfl, q 2 _ (by omega) rfl, q 3 _ (by omega) rfl⟩

/-- Does j go ahead of k, by their periods? -/
def goesT (l : List TK) (j k : Nat) : Bool := decide ((l.getD j default).per < (l.getD k default).per) || (decide ((l.getD j default).per = (l.getD k default).per) && decide (j < k))
theorem goes_eq (ws : List RW) (l : List TK) (j k : Nat) (hj : j < l.length) (hk : k < l.length) : goesT l j k = goesP (loadsT ws l) j k := by
  have e : ∀ i, i < l.length → perAt (loadsT ws l) i = (l.getD i default).per := fun i hi => by simp [perAt, loadsT, hi]
  unfold goesT goesP
  rw [e j hj, e k hk]

set_option maxRecDepth 100000 in
set_option maxHeartbeats 8000000 in
theorem ref_ahead (w : World) (pb po cap : Nat) (l : List TK) (j k : Nat) (h : TasksAt w pb po l) (hn : l.length ≤ cap) (h8 : l.length ≤ 8) (hj : j < l.length) (hk : k < l.length) :
    Calls Tryz.prog 136 #[.slice (some ⟨pb, po, none⟩) l.length cap, .int .i64 j, .int .i64 k] w fun e w' => e = .returned (.bool (goesT l j k)) ∧ Below w.heap.size w w' := by
  obtain ⟨_, a1, _, _⟩ := h.cells j hj
  obtain ⟨_, b1, _, _⟩ := h.cells k hk
  obtain ⟨x, hx⟩ : ∃ x, x = l[j].per := ⟨_, rfl⟩
  obtain ⟨y, hy⟩ : ∃ y, y = l[k].per := ⟨_, rfl⟩
  have hg : goesT l j k = (decide (x < y) || (decide (x = y) && decide (j < k))) := by unfold goesT; simp [hj, hk, hx, hy]
  rw [← hx] at a1
  rw [← hy] at b1
  obtain ⟨R, hR⟩ : ∃ R, R = goesT l j k := ⟨_, rfl⟩
  rw [← hR]
  rw [← hR] at hg
  have hp := h.1
  obtain ⟨n, hnn⟩ : ∃ n, n = l.length := ⟨_, rfl⟩
  rw [← hnn] at hn h8 hj hk ⊢
  have hji : (j : Int) < (n : Int) := by omega
  have hki : (k : Int) < (n : Int) := by omega
  have hj0 : (0 : Int) ≤ (j : Int) := by omega
  have hk0 : (0 : Int) ≤ (k : Int) := by omega
  have hbq : ∀ nq, Below w.heap.size w (w.drewN nq) := fun nq => ⟨rfl, rfl, rfl, Nat.le_refl _, fun _ _ => rfl⟩
  have HBQ := hidden hbq
  clear h hx hy hR hnn hbq
  by_cases hxy : x < y
  · have HG : Hid (R = true) := by show R = true; rw [hg]; simp [hxy]
    have hd : decide (x < y) = true := decide_eq_true hxy
    clear hg
    go_enter Tryz.func136, Tryz.ntmps136
    go_wp2_with fail
    go_quiet (fail)
    go_wp2_with fail
    rw [HG.out]
    go_ret
    exact ⟨rfl, HBQ.out _⟩
  · have hd : decide (x < y) = false := decide_eq_false hxy
    by_cases hxe : x = y
    · have hd2 : (x == y) = true := by simp [hxe]
      by_cases hjk : j < k
      · have HG : Hid (R = true) := by show R = true; rw [hg]; simp [hxe, hjk]
        have hjki : (j : Int) < (k : Int) := by omega
        have hd3 : decide ((j : Int) < (k : Int)) = true := decide_eq_true hjki
        have HXE := hidden hxe
        clear hg hxe
        go_enter Tryz.func136, Tryz.ntmps136
        go_wp2_with fail
        go_quiet (fail)
        go_wp2_with fail
        rw [HG.out]
        go_ret
        exact ⟨rfl, HBQ.out _⟩
      · have HG : Hid (R = false) := by show R = false; rw [hg]; simp [hxe, hjk]
        have hjki : ¬ (j : Int) < (k : Int) := by omega
        have hd3 : decide ((j : Int) < (k : Int)) = false := decide_eq_false hjki
        have HXE := hidden hxe
        clear hg hxe
        go_enter Tryz.func136, Tryz.ntmps136
        go_wp2_with fail
        go_quiet (fail)
        go_wp2_with fail
        rw [HG.out]
        go_ret
        exact ⟨rfl, HBQ.out _⟩
    · have hd2 : (x == y) = false := by simp [hxe]
      have HG : Hid (R = false) := by show R = false; rw [hg]; simp [hxe, hxy]
      clear hg
      go_enter Tryz.func136, Tryz.ntmps136
      go_wp2_with fail
      go_quiet (fail)
      go_wp2_with fail
      rw [HG.out]
      go_ret
      exact ⟨rfl, HBQ.out _⟩

set_option maxRecDepth 100000 in
set_option maxHeartbeats 8000000 in
theorem ref_wrong {sb : Nat} {sv : Value} {ws : List RW} {c k : Int} (t : TK) (w : World) (h : RefSys w sb sv ws c k) (hl : ws.length ≤ 1100000) :
    Calls Tryz.prog 134 #[.pointer (some ⟨sb, 0, none⟩), t.val] w fun e w' => e = .returned (.int .i64 (wrongT ws t)) ∧ Below w.heap.size w w' := by
  obtain ⟨E, hE⟩ : ∃ E, E = wrongT ws t := ⟨_, rfl⟩
  have hE2 := hE
  unfold wrongT at hE2
  rw [← hE]
  have hff : ∀ w' : World, Below w.heap.size w w' → Calls Tryz.prog 66 #[.pointer (some ⟨sb, 0, none⟩), .string t.word] w' fun e w2 => e = .returned (.tuple #[(findI ws t.word).1.val, .int .i64 (findI ws t.word).2]) ∧ Below w'.heap.size w' w2 := fun w' hb =>
    ref_Find t.word w' (h.chg (Chg.ofBelow (S := fun _ => False) hb) id (fun _ _ => id)) hl
  obtain ⟨⟨⟨b1, b2, b3, b4, b5⟩, f⟩, hF⟩ : ∃ F, F = findI ws t.word := ⟨_, rfl⟩
  rw [← hF] at hff hE2
  simp only [Inf.val] at hff hE2
  have hsb := h.blk.lt
  have HF := hidden hff; have HE2 := hidden hE2
  clear h hff hE hE2 hF
  obtain ⟨s, p, d, o⟩ := t
  simp only at HF HE2
  unfold TK.val
  simp only
  obtain ⟨X, hX⟩ : ∃ X : World, X = w.alloc (.cells #[.string s, .int .i64 p, .int .i64 d, .int .i64 o] 67 (0, 0)) := ⟨_, rfl⟩
  obtain ⟨tb, htb⟩ : ∃ tb, tb = w.heap.size := ⟨_, rfl⟩
  have hb0 : Below w.heap.size w X := by rw [hX]; exact (Below.refl _ _).alloc (Nat.le_refl _) _
  have hkX : Blk X tb #[.string s, .int .i64 p, .int .i64 d, .int .i64 o] 67 := by rw [hX, htb]; exact blk_new w _ _
  have HX := hidden hX; have HTB := hidden htb; have HB0 := hidden hb0; have HKX := hidden hkX
  have x0 : X.cell? ⟨tb, 0, none⟩ = some (.string s) := hkX.cell 0 _ rfl
  clear hX htb hb0 hkX
  go_enter Tryz.func134, Tryz.ntmps134
  go_upto_region 1 with fail
  rw [← HX.out, ← HTB.out]
  go_wp2_with fail
  refine (HF.out _ HB0.out).mono ?_
  rintro e w1 ⟨rfl, hb1⟩
  obtain ⟨Y, hY⟩ : ∃ Y : World, Y = w1.alloc (.cells #[.int .i64 b1, .int .i64 b2, .int .i64 b3, .int .i64 b4, .bool b5] 36 (0, 0)) := ⟨_, rfl⟩
  obtain ⟨ib, hib⟩ : ∃ ib, ib = w1.heap.size := ⟨_, rfl⟩
  have hbY : Below X.heap.size X Y := by rw [hY]; exact hb1.alloc hb1.size _
  have hkY : Blk Y ib #[.int .i64 b1, .int .i64 b2, .int .i64 b3, .int .i64 b4, .bool b5] 36 := by rw [hY, hib]; exact blk_new w1 _ _
  have hktY := HKX.out.sub hbY HKX.out.lt
  have y1 : Y.cell? ⟨tb, 1, none⟩ = some (.int .i64 p) := hktY.cell 1 _ rfl
  have y2 : Y.cell? ⟨tb, 2, none⟩ = some (.int .i64 d) := hktY.cell 2 _ rfl
  have y3 : Y.cell? ⟨tb, 3, none⟩ = some (.int .i64 o) := hktY.cell 3 _ rfl
  have z0 : Y.cell? ⟨ib, 0, none⟩ = some (.int .i64 b1) := hkY.cell 0 _ rfl
  have z2 : Y.cell? ⟨ib, 2, none⟩ = some (.int .i64 b3) := hkY.cell 2 _ rfl
  have HY := hidden hY; have HIB := hidden hib; have HBY := hidden (HB0.out.trans (hbY.mono HB0.out.size))
  clear hY hib hbY hkY hktY hb1 HF x0
  go_upto_region 2 with fail
  rw [← HY.out, ← HIB.out]
  by_cases hf0 : f = 0
  · have hfn : (f != 0) = false := by simp [hf0]
    have hE := HE2.out
    rw [if_neg (by simp [hf0])] at hE
    by_cases hfit : (TK.mk s p d o).Fits
    · rw [if_neg (fun h => h hfit)] at hE
      obtain ⟨f1, f2, f3, f4, f5, f6⟩ := hfit
      simp only at f1 f2 f3 f4 f5 f6
      by_cases hn : 0 < b1
      · rw [if_pos (Or.inl hn)] at hE
        have HE := hidden hE
        clear hE HE2
        go_wp2_with fail
        rw [HE.out]
        go_ret
        exact ⟨rfl, HBY.out⟩
      · by_cases hh : 32 < b3
        · rw [if_pos (Or.inr hh)] at hE
          have HE := hidden hE
          clear hE HE2
          go_wp2_with fail
          rw [HE.out]
          go_ret
          exact ⟨rfl, HBY.out⟩
        · rw [if_neg (fun e => e.elim hn hh)] at hE
          have HE := hidden hE
          clear hE HE2
          go_wp2_with fail
          rw [HE.out]
          go_ret
          exact ⟨rfl, HBY.out⟩
    · rw [if_pos hfit] at hE
      have HE := hidden hE
      have HNF := hidden hfit
      clear hE HE2 hfit
      by_cases f1 : p < 1
      · go_wp2_with fail
        rw [HE.out]
        go_ret
        exact ⟨rfl, HBY.out⟩
      · by_cases f2 : 1000000 < p
        · go_wp2_with fail
          rw [HE.out]
          go_ret
          exact ⟨rfl, HBY.out⟩
        · by_cases f3 : d < 1
          · go_wp2_with fail
            rw [HE.out]
            go_ret
            exact ⟨rfl, HBY.out⟩
          · by_cases f4 : p < d
            · go_wp2_with fail
              rw [HE.out]
              go_ret
              exact ⟨rfl, HBY.out⟩
            · by_cases f5 : o < 0
              · go_wp2_with fail
                rw [HE.out]
                go_ret
                exact ⟨rfl, HBY.out⟩
              · have f6 : 1000000 < o := by
                  apply Classical.byContradiction
                  intro h6
                  refine HNF.out ⟨?_, ?_, ?_, ?_, ?_, ?_⟩ <;> simp only <;> omega
                go_wp2_with fail
                rw [HE.out]
                go_ret
                exact ⟨rfl, HBY.out⟩
  · have hfn : (f != 0) = true := by simp [hf0]
    have hE := HE2.out
    rw [if_pos hf0] at hE
    have HE := hidden hE
    clear hE HE2
    go_wp2_with fail
    rw [HE.out]
    go_ret
    exact ⟨rfl, HBY.out⟩

/-- What is demanded by those of the first n. -/
def demTo (ls : List (Int × Int)) (k n : Nat) (r : Int) : Int := costAt ls k + within r (aheadP ls k n)
theorem demTo_succ (ls : List (Int × Int)) (k n : Nat) (r : Int) : demTo ls k (n + 1) r = if goesP ls n k = true then demTo ls k n r + costAt ls n * ((r + perAt ls n - 1) / perAt ls n) else demTo ls k n r := by
  unfold demTo
  rw [aheadP]
  split
  · rw [within_append]; simp only [within]; omega
  · rfl

set_option maxRecDepth 100000 in
set_option maxHeartbeats 8000000 in
theorem ref_demand {sb : Nat} {sv : Value} {ws : List RW} {c k' : Int} {es : List PE} (l : List TK) (pb po cap k : Nat) (r : Int) (w : World) (h : RefSys w sb sv ws c k') (hl : ws.length ≤ 1100000) (hA : Alike es ws) (ht : TasksAt w pb po l) (hn : l.length ≤ cap) (h8 : l.length ≤ 8) (hk : k < l.length) (hw : ∀ t ∈ l, wrongT ws t = 0) (h0 : 0 ≤ r) (h1 : r ≤ 1000000) :
    Calls Tryz.prog 176 #[.pointer (some ⟨sb, 0, none⟩), .slice (some ⟨pb, po, none⟩) l.length cap, .int .i64 k, .int .i64 r] w fun e w' => e = .returned (.int .i64 (demandT (loadsT ws l) k r)) ∧ Below w.heap.size w w' := by
  obtain ⟨ls, hls⟩ : ∃ ls, ls = loadsT ws l := ⟨_, rfl⟩
  have hok : ∀ x ∈ ls, LdOk x := by rw [hls]; exact loads_ok hA hw
  have hll : ls.length = l.length := by rw [hls]; simp [loadsT]
  have hco : ∀ i (hi : i < l.length), (findI ws l[i].word).1.steps = costAt ls i ∧ l[i].per = perAt ls i := fun i hi => by rw [hls]; simp [costAt, perAt, loadsT, hi]
  rw [← hls]
  have HFI := hidden (fun (w' : World) (hb : Below w.heap.size w w') (i : Nat) (hi : i < l.length) => (show ∃ b1 b2 b3 b5 f, Calls Tryz.prog 66 #[.pointer (some ⟨sb, 0, none⟩), .string l[i].word] w' fun e w2 => e = .returned (.tuple #[.agg #[.int .i64 b1, .int .i64 b2, .int .i64 b3, .int .i64 (costAt ls i), .bool b5], .int .i64 f]) ∧ Below w'.heap.size w' w2 from by
    have := ref_Find l[i].word w' (h.chg (Chg.ofBelow (S := fun _ => False) hb) id (fun _ _ => id)) hl
    have hc := (hco i hi).1
    obtain ⟨⟨⟨b1, b2, b3, b4, b5⟩, f⟩, hF⟩ : ∃ F, F = findI ws l[i].word := ⟨_, rfl⟩
    rw [← hF] at this hc
    simp only [Inf.val] at this hc
    rw [hc] at this
    exact ⟨b1, b2, b3, b5, f, this⟩))
  have HAH := hidden (fun (w' : World) (hb : Below w.heap.size w w') (i : Nat) (hi : i < l.length) => (show Calls Tryz.prog 136 #[.slice (some ⟨pb, po, none⟩) l.length cap, .int .i64 i, .int .i64 k] w' fun e w2 => e = .returned (.bool (goesP ls i k)) ∧ Below w'.heap.size w' w2 from by
    rw [hls, ← goes_eq ws l i k hi hk]; exact ref_ahead w' pb po cap l i k (ht.below hb ht.1) hn h8 hi hk))
  have HTC := hidden (fun (w' : World) (hb : Below w.heap.size w w') (i : Nat) (hi : i < l.length) => (show w'.cell? ⟨pb, po + i * 4, none⟩ = some (.string l[i].word) ∧ w'.cell? ⟨pb, po + i * 4 + 1, none⟩ = some (.int .i64 (perAt ls i)) from by
    have q := (ht.below hb ht.1).cells i hi
    rw [(hco i hi).2] at q
    exact ⟨q.1, q.2.1⟩))
  obtain ⟨R, hR⟩ : ∃ R, R = demandT ls k r := ⟨_, rfl⟩
  rw [← hR]
  have hR2 : R = demTo ls k l.length r := by rw [hR]; unfold demandT demTo; rw [hll]
  have hpb := ht.1
  have HOK := hidden hok; have HLL := hidden hll; have HR := hidden hR2
  have hsb := h.blk.lt
  obtain ⟨n, hnn⟩ : ∃ n, n = l.length := ⟨_, rfl⟩
  rw [← hnn] at hn h8 hk HAH HLL HR ⊢
  have HN := hidden hnn
  have hki : (k : Int) < (n : Int) := by omega
  have hk0 : (0 : Int) ≤ (k : Int) := by omega
  have hkl : k < l.length := by omega
  clear h hA ht hw hok hll hco hR hR2 hnn hls
  have q := HTC.out w (Below.refl _ _) k hkl
  obtain ⟨q0, q1⟩ := q
  obtain ⟨b1, b2, b3, b5, f, hfk⟩ := HFI.out w (Below.refl _ _) k hkl
  have HFK := hidden hfk
  obtain ⟨C0, hC0⟩ : ∃ C, C = costAt ls k := ⟨_, rfl⟩
  rw [← hC0] at HFK
  have HC0 := hidden hC0
  obtain ⟨s0, hs0⟩ : ∃ s, s = l[k].word := ⟨_, rfl⟩
  rw [← hs0] at HFK q0
  clear hfk q1 hs0 hC0
  go_enter Tryz.func176, Tryz.ntmps176
  go_wp2_with fail
  refine HFK.out.mono ?_
  rintro e w1 ⟨rfl, hb1⟩
  obtain ⟨Y, hY⟩ : ∃ Y : World, Y = w1.alloc (.cells #[.int .i64 b1, .int .i64 b2, .int .i64 b3, .int .i64 C0, .bool b5] 36 (0, 0)) := ⟨_, rfl⟩
  obtain ⟨ib, hib⟩ : ∃ ib, ib = w1.heap.size := ⟨_, rfl⟩
  have hbY : Below w.heap.size w Y := by rw [hY]; exact hb1.alloc hb1.size _
  have hkY : Blk Y ib #[.int .i64 b1, .int .i64 b2, .int .i64 b3, .int .i64 C0, .bool b5] 36 := by rw [hY, hib]; exact blk_new w1 _ _
  have z3 : Y.cell? ⟨ib, 3, none⟩ = some (.int .i64 C0) := hkY.cell 3 _ rfl
  have hibw : w.heap.size ≤ ib := by rw [hib]; exact hb1.size
  have HY := hidden hY; have HIB := hidden hib; have HBY := hidden hbY; have HKY := hidden hkY
  clear hY hib hbY hkY hb1 HFK q0
  go_upto_region 2 with fail
  rw [← HY.out, ← HIB.out]
  go_wp2_with fail
  go_loopw [11, 12] (fun s i wr => ∃ (j : Nat) (v1 v2 v3 v4 : Int) (v5 : Bool), j ≤ n ∧ i = .int .i64 j ∧ s = .int .i64 (demTo ls k j r) ∧ Hid (Blk wr ib #[.int .i64 v1, .int .i64 v2, .int .i64 v3, .int .i64 v4, .bool v5] 36) ∧ Hid (Below w.heap.size w wr)) (fun _ i _ => n - (intOf i).toNat)
  case atStart => exact ⟨0, b1, b2, b3, C0, b5, Nat.zero_le _, rfl, by unfold demTo; simp only [aheadP, within]; rw [HC0.out, Int.add_zero], HKY, HBY⟩
  case round =>
    clear HKY HBY z3 HY
    obtain ⟨j, v1, v2, v3, v4, v5, hj, rfl, rfl, HK, HB⟩ := hrel
    by_cases hlt : j < n
    · have hli : (j : Int) < (n : Int) := by omega
      have hl0 : (0 : Int) ≤ (j : Int) := by omega
      have hjl : j < l.length := by have := HN.out; omega
      have HAJ := hidden (HAH.out wr HB.out j hlt)
      obtain ⟨g, hg⟩ : ∃ g, g = goesP ls j k := ⟨_, rfl⟩
      rw [← hg] at HAJ
      have hsu := demTo_succ ls k j r
      rw [← hg] at hsu
      have HSU := hidden hsu
      clear hsu hg
      go_wp2_with fail
      refine HAJ.out.mono ?_
      rintro e w2 ⟨rfl, hb2⟩
      have hB2 := HB.out.trans (hb2.mono HB.out.size)
      have hK2 := HK.out.sub hb2 HK.out.lt
      have HB2 := hidden hB2; have HK2 := hidden hK2
      clear hb2 hB2 hK2 HAJ HK HB
      cases g with
      | false =>
        go_wp2_with fail
        go_roundw
        case rel => exact ⟨j + 1, v1, v2, v3, v4, v5, by omega, by go_num, by rw [HSU.out, if_neg (by decide)], HK2, HB2⟩
        case measure => simp [intOf]; omega
      | true =>
        obtain ⟨d1, d2, d3, d5, f2, hfj⟩ := HFI.out w2 HB2.out j hjl
        obtain ⟨cj, hcj⟩ : ∃ c, c = costAt ls j := ⟨_, rfl⟩
        obtain ⟨pj, hpj⟩ : ∃ p, p = perAt ls j := ⟨_, rfl⟩
        have q := HTC.out w2 HB2.out j hjl
        have hokj := ld_at HOK.out (k := j) (by have := HLL.out; omega)
        rw [← hcj, ← hpj] at hokj
        have hsu := HSU.out
        rw [if_pos rfl, ← hcj, ← hpj] at hsu
        rw [← hcj] at hfj
        rw [← hpj] at q
        obtain ⟨q0, q1⟩ := q
        obtain ⟨sj, hsj⟩ : ∃ s, s = l[j].word := ⟨_, rfl⟩
        rw [← hsj] at hfj q0
        have hob := one_bd hokj h0 h1
        obtain ⟨o1, o2, o3, o4⟩ := hokj
        simp only at o1 o2 o3 o4 hob
        have hrb := rel_bd o3 h0 h1
        have hdt : 0 ≤ demTo ls k j r ∧ demTo ls k j r ≤ 9000000000000000 := by
          have a1 := within_bd (ahead_ok HOK.out k j (by have := HLL.out; omega)) h0 h1
          have a2 := aheadP_len ls k j
          obtain ⟨a3, a4, _, _⟩ := ld_at HOK.out (k := k) (by have := HLL.out; omega)
          simp only at a3 a4
          unfold demTo; omega
        obtain ⟨S, hS⟩ : ∃ S, S = demTo ls k j r := ⟨_, rfl⟩
        rw [← hS] at hsu hdt ⊢
        obtain ⟨hS0, hS1⟩ := hdt
        obtain ⟨qq, hqq⟩ : ∃ q, q = (r + pj - 1) / pj := ⟨_, rfl⟩
        rw [← hqq] at hob hrb hsu
        obtain ⟨M, hM⟩ : ∃ M, M = cj * qq := ⟨_, rfl⟩
        rw [← hM] at hob hsu
        obtain ⟨hM0, hM1⟩ := hob
        have hM2 : qq * cj = M := by rw [hM, Int.mul_comm]
        have hp0 : pj ≠ 0 := by omega
        have HPJ := hidden hpj.symm
        have HFJ := hidden hfj; have HSU2 := hidden hsu; have HQE := hidden hqq.symm; have HM2 := hidden hM2
        have hibl := HK2.out.lt
        have hpb2 : pb < w2.heap.size := Nat.lt_of_lt_of_le hpb HB2.out.size
        clear hfj hsu hqq hM hM2 hsj hcj hpj hS HSU
        go_wp2_with fail
        refine HFJ.out.mono ?_
        rintro e w3 ⟨rfl, hb3⟩
        have hk3 := HK2.out.sub hb3 HK2.out.lt
        have hB3 := HB2.out.trans (hb3.mono HB2.out.size)
        have e0 : w3.cell? ⟨ib, 0, none⟩ = some (.int .i64 v1) := hk3.cell 0 _ rfl
        have e1 : w3.cell? ⟨ib, 1, none⟩ = some (.int .i64 v2) := hk3.cell 1 _ rfl
        have e2 : w3.cell? ⟨ib, 2, none⟩ = some (.int .i64 v3) := hk3.cell 2 _ rfl
        have e3 : w3.cell? ⟨ib, 3, none⟩ = some (.int .i64 v4) := hk3.cell 3 _ rfl
        have e4 : w3.cell? ⟨ib, 4, none⟩ = some (.bool v5) := hk3.cell 4 _ rfl
        have g0 := hk3.frozen 0; have g1 := hk3.frozen 1; have g2 := hk3.frozen 2; have g3 := hk3.frozen 3; have g4 := hk3.frozen 4
        obtain ⟨V, hV⟩ : ∃ V : World, V = ((((w3.setCell ⟨ib, 0, none⟩ (.int .i64 d1)).setCell ⟨ib, 1, none⟩ (.int .i64 d2)).setCell ⟨ib, 2, none⟩ (.int .i64 d3)).setCell ⟨ib, 3, none⟩ (.int .i64 cj)).setCell ⟨ib, 4, none⟩ (.bool d5) := ⟨_, rfl⟩
        have hkV : Blk V ib #[.int .i64 d1, .int .i64 d2, .int .i64 d3, .int .i64 cj, .bool d5] 36 := by
          rw [hV]
          have := ((((hk3.set (o := 0) (.int .i64 d1)).set (o := 1) (.int .i64 d2)).set (o := 2) (.int .i64 d3)).set (o := 3) (.int .i64 cj)).set (o := 4) (.bool d5)
          simpa using this
        have hBV : Below w.heap.size w V := by
          rw [hV]; exact ((((hB3.setCell hibw _).setCell hibw _).setCell hibw _).setCell hibw _).setCell hibw _
        have q1V := (HTC.out V hBV j hjl).2
        have HV := hidden hV; have HKV := hidden hkV; have HBV := hidden hBV
        have hi3 := hk3.lt
        clear hV hkV hBV hk3 hB3 hb3 HFJ q0 q1
        go_upto_region 9 with fail
        rw [← HV.out]
        clear e0 e1 e2 e3 e4 g0 g1 g2 g3 g4
        have r3 : V.cell? ⟨ib, 3, none⟩ = some (.int .i64 cj) := HKV.out.cell 3 _ rfl
        rw [HPJ.out] at q1V
        go_wp2_with fail
        go_quiet (fail)
        go_wp2_with fail
        go_roundw
        case rel =>
          have hbq : Below V.heap.size V (V.drewN nq) := ⟨rfl, rfl, rfl, Nat.le_refl _, fun _ _ => rfl⟩
          refine ⟨j + 1, d1, d2, d3, cj, d5, by omega, by go_num, ?_, hidden (HKV.out.sub hbq HKV.out.lt), hidden (HBV.out.trans (hbq.mono HBV.out.size))⟩
          rw [HSU2.out, HQE.out, HM2.out, wrap_id M (by omega), wrap_id (S + M) (by omega)]
        case measure => simp [intOf]; omega
    · have hli : ¬ (j : Int) < (n : Int) := by omega
      obtain rfl : j = n := by omega
      go_wp2_with fail
      rw [← HR.out]
      go_ret
      exact ⟨rfl, HB.out⟩

end Go.Proofs.YtcphhbofjkenaaaGreatDoor
