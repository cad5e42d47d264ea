/- The document's answer: what is known of one item. -/
import Derived.Deep.DrawnRows
import Derived.Deep.RegionHeld3
import Derived.Test.YtcphhbofjkenaaaGreatDoorM03
import Derived.Test.YtcphhbofjkenaaaGreatDoorM10

namespace Go.Proofs.YtcphhbofjkenaaaGreatDoor
open Go.RowKit
set_option linter.unusedVariables false
set_option linter.unusedSimpArgs false

/-- The result's cells, where nothing of it has been written yet. -/
theorem zeros_at {w w1 : World} {b : Nat} {t : TypeId} (hb : Blk w b zero5 t) (h : Below (b + 1) w w1) : Blk w1 b zero5 t := (h.block b (by omega)).trans hb

theorem res_blk (w : World) (o : Obj) (t : TypeId) : Blk ((w.alloc o).alloc (.cells zero5 t (0, 0))) (w.heap.size + 1) zero5 t := by
  have := blk_new (w.alloc o) zero5 t
  simpa using this

theorem norm2 {w w1 : World} {a b : Obj} (h : Below ((w.alloc a).alloc b).heap.size ((w.alloc a).alloc b) w1) : Below (w.heap.size + 1 + 1) ((w.alloc a).alloc b) w1 := by simpa using h
theorem norm3 {w w1 : World} {a b c : Obj} (h : Below (((w.alloc a).alloc b).alloc c).heap.size (((w.alloc a).alloc b).alloc c) w1) : Below (w.heap.size + 1 + 1 + 1) (((w.alloc a).alloc b).alloc c) w1 := by simpa using h
theorem norm4 {w w1 : World} {a b c d : Obj} (h : Below ((((w.alloc a).alloc b).alloc c).alloc d).heap.size ((((w.alloc a).alloc b).alloc c).alloc d) w1) : Below (w.heap.size + 1 + 1 + 1 + 1) ((((w.alloc a).alloc b).alloc c).alloc d) w1 := by simpa using h

theorem thereS_bd (s : ByteArray) : 0 ≤ (thereS s).1 ∧ (thereS s).1 ≤ 100 ∧ 0 ≤ (thereS s).2.1 ∧ (thereS s).2.1 ≤ 100 := by
  unfold thereS thereL
  split
  · rename_i r hr
    have hm := List.mem_of_find?_eq_some hr
    have : ∀ r ∈ tab, 0 ≤ r.2.1 ∧ r.2.1 ≤ 100 ∧ 0 ≤ r.2.2 ∧ r.2.2 ≤ 100 := by decide
    exact this r hm
  · simp

set_option maxHeartbeats 1000000 in
theorem ref_of_num (sb : Nat) (n s A B : Value) (hn : n.oneCell' = true) (hs : s.oneCell' = true) (hA : A.oneCell' = true) (hB : B.oneCell' = true) (w : World) :
    Calls Tryz.prog 171 #[.pointer (some ⟨sb, 0, none⟩), .agg #[.int .i64 1, n, s, A, B]] w fun e w' => e = .returned (Inf.plain 0 1).val ∧ Below w.heap.size w w' := by
  go_enter Tryz.func171, Tryz.ntmps171
  go_wp2_with fail
  refine (ref_plain 0 1 _ (by omega) (by omega) (by omega) (by omega)).mono ?_
  rintro e w1 ⟨rfl, hb1⟩
  have hb' := norm2 hb1
  have hz := (hb'.block (w.heap.size + 1) (by omega)).trans (res_blk w _ 36)
  have hz : Blk w1 (w.heap.size + 1) zero5 36 := hz
  obtain ⟨d0, d1, d2, d3, d4⟩ := hz.zero
  obtain ⟨g0, g1, g2, g3, g4⟩ := hz.free
  have HB := hidden hb'
  clear hz hb' hb1
  unfold Inf.val
  go_wp2_with fail
  refine bodyPost_ret (v := (Inf.plain 0 1).val) (by simp [results, Tryz.results171, go_sem, Inf.val, d0, d1, d2, d3, d4]) rfl ⟨rfl, ?_⟩
  exact ((((((below2 HB.out).setCell (by simp) _).setCell (by simp) _).setCell (by simp) _).setCell (by simp) _).setCell (by simp) _)

set_option maxHeartbeats 1000000 in
theorem ref_of_there (sb : Nat) (n : Value) (s : ByteArray) (A B : Value) (hn : n.oneCell' = true) (hA : A.oneCell' = true) (hB : B.oneCell' = true) (w : World) :
    Calls Tryz.prog 171 #[.pointer (some ⟨sb, 0, none⟩), .agg #[.int .i64 2, n, .string s, A, B]] w fun e w' => e = .returned (Inf.plain (thereS s).1 (thereS s).2.1).val ∧ Below w.heap.size w w' := by
  have hbd := thereS_bd s
  have HT : Hid (∀ w, Calls Tryz.prog 193 #[.string s] w fun e w' => e = .returned (.tuple #[.int .i64 (thereS s).1, .int .i64 (thereS s).2.1, .bool (thereS s).2.2]) ∧ w' = w) := ref_there s
  obtain ⟨t, p, b, hp⟩ : ∃ t p b, thereS s = (t, p, b) := ⟨_, _, _, rfl⟩
  have HT2 : Hid (∀ w, Calls Tryz.prog 193 #[.string s] w fun e w' => e = .returned (.tuple #[.int .i64 t, .int .i64 p, .bool b]) ∧ w' = w) := by
    have := HT.out; rw [hp] at this; exact this
  rw [hp] at hbd ⊢
  obtain ⟨b0, b1, b2, b3⟩ := hbd
  simp only at b0 b1 b2 b3 ⊢
  clear HT hp
  go_enter Tryz.func171, Tryz.ntmps171
  go_wp2_with fail
  refine (HT2.out _).mono ?_
  rintro e w0 ⟨rfl, rfl⟩
  go_wp2_with fail
  refine (ref_plain t p _ b0 b1 b2 b3).mono ?_
  rintro e w1 ⟨rfl, hb1⟩
  have hb' := norm2 hb1
  have hz := (hb'.block (w.heap.size + 1) (by omega)).trans (res_blk w _ 36)
  have hz : Blk w1 (w.heap.size + 1) zero5 36 := hz
  obtain ⟨d0, d1, d2, d3, d4⟩ := hz.zero
  obtain ⟨g0, g1, g2, g3, g4⟩ := hz.free
  have HB := hidden hb'
  clear hz hb' hb1
  unfold Inf.val
  go_wp2_with fail
  refine bodyPost_ret (v := (Inf.plain t p).val) (by simp [results, Tryz.results171, go_sem, Inf.val, d0, d1, d2, d3, d4]) rfl ⟨rfl, ?_⟩
  exact ((((((below2 HB.out).setCell (by simp) _).setCell (by simp) _).setCell (by simp) _).setCell (by simp) _).setCell (by simp) _)

end Go.Proofs.YtcphhbofjkenaaaGreatDoor

/- The document's answer: what is known of a word of one's own. -/
namespace Go.Proofs.YtcphhbofjkenaaaGreatDoor
open Go.RowKit
set_option linter.unusedVariables false
set_option linter.unusedSimpArgs false
attribute [local go_sem ↓] Go.wp_at_zero Go.wp_at_succ

theorem two_alloc_cell {w : World} {a : Addr} {v : Value} (h : w.cell? a = some v) : ∀ o p : Obj, ((w.alloc o).alloc p).cell? a = some v := by
  intro o p
  have hlt : a.block < w.heap.size := World.block_lt_of_cell? w a h
  rw [(((Chg.refl (fun _ => False) w).alloc o).alloc p).cell hlt id]; exact h

set_option maxHeartbeats 2000000 in
theorem ref_of_own (sb g cap m : Nat) (i : Nat) (x : RW) (s : Value) (A B : Value) (hs : s.oneCell' = true) (hA : A.oneCell' = true) (hB : B.oneCell' = true) (w : World)
    (hi : i < m) (hm : m ≤ 1100000) (hmc : m ≤ cap) (hx : ∃ q a b, x.items = .slice q a b) (hok : x.inf.Ok)
    (h0 : w.cell? ⟨sb, 0, none⟩ = some (.slice (some ⟨g, 0, none⟩) m cap))
    (hc : ∀ (j : Nat) (u : Value), j < 8 → (x.cells)[j]? = some u → w.cell? ⟨g, i * 8 + j, none⟩ = some u) :
    Calls Tryz.prog 171 #[.pointer (some ⟨sb, 0, none⟩), .agg #[.int .i64 3, .int .i64 i, s, A, B]] w fun e w' => e = .returned (if 0 ≤ x.var then Inf.plain 0 1 else { x.inf with steps := min (x.inf.steps + 1) 1000000001 }).val ∧ Below w.heap.size w w' := by
  have H0 := two_alloc_cell h0
  have k0 := two_alloc_cell (hc 0 _ (by omega) rfl)
  have k1 := two_alloc_cell (hc 1 _ (by omega) rfl)
  have k2 := two_alloc_cell (hc 2 _ (by omega) rfl)
  have k3 := two_alloc_cell (hc 3 _ (by omega) rfl)
  have k4 := two_alloc_cell (hc 4 _ (by omega) rfl)
  have k5 := two_alloc_cell (hc 5 _ (by omega) rfl)
  have k6 := two_alloc_cell (hc 6 _ (by omega) rfl)
  have k7 := two_alloc_cell (hc 7 _ (by omega) rfl)
  have hgs : g < w.heap.size := World.block_lt_of_cell? w _ (hc 0 _ (by omega) rfl)
  have hsb : sb < w.heap.size := World.block_lt_of_cell? w _ h0
  obtain ⟨nm, vr, it, ⟨nd, nt, hg, st, sr⟩⟩ := x
  have o1 := hok.s0; have o2 := hok.s1
  simp only at o1 o2 hx k0 k1 k2 k3 k4 k5 k6 k7 ⊢
  simp only [Nat.add_zero] at k0
  obtain ⟨iq, ia, ib, rfl⟩ := hx
  clear hc h0 hok
  have b1 : (0 : Int) ≤ (i : Int) := by omega
  have b2 : (i : Int) < (m : Int) := by omega
  by_cases hv : 0 ≤ vr
  · rw [if_pos hv]
    go_enter Tryz.func171, Tryz.ntmps171
    go_wp2_with fail
    go_region_held3 (fun w' => w'.cell? ⟨sb, 0, none⟩ = some (.slice (some ⟨g, 0, none⟩) m cap) ∧ w'.cell? ⟨w.heap.size, 1, none⟩ = some (.int .i64 i) ∧ w'.cell? ⟨g, i * 8, none⟩ = some (.string nm) ∧ w'.cell? ⟨g, i * 8 + 1, none⟩ = some (.int .i64 vr) ∧ w'.cell? ⟨g, i * 8 + 2, none⟩ = some (.slice iq ia ib) ∧ w'.cell? ⟨g, i * 8 + 3, none⟩ = some (.int .i64 nd) ∧ w'.cell? ⟨g, i * 8 + 4, none⟩ = some (.int .i64 nt) ∧ w'.cell? ⟨g, i * 8 + 5, none⟩ = some (.int .i64 hg) ∧ w'.cell? ⟨g, i * 8 + 6, none⟩ = some (.int .i64 st) ∧ w'.cell? ⟨g, i * 8 + 7, none⟩ = some (.bool sr)) (go_keep) (fail)
    clear k0 k1 k2 k3 k4 k5 k6 k7 H0
    go_wp2_with fail
    refine (ref_plain 0 1 _ (by omega) (by omega) (by omega) (by omega)).mono ?_
    rintro e w1 ⟨rfl, hb1⟩
    have hbA : Below w.heap.size w w1 := (((((Below.refl _ _).alloc (Nat.le_refl _) _).alloc (by simp) _).alloc (by simp; omega) _).drew).trans (hb1.mono (by simp; omega))
    have hz : Blk w1 (w.heap.size + 1) zero5 36 := (hb1.block _ (by simp)).trans (Blk.drew (Blk.alloc (res_blk w _ _) _))
    obtain ⟨d0, d1, d2, d3, d4⟩ := hz.zero
    obtain ⟨g0, g1, g2, g3, g4⟩ := hz.free
    have HB := hidden hbA
    clear hz hbA hb1
    unfold Inf.val
    go_wp2_with fail
    refine bodyPost_ret (v := (Inf.plain 0 1).val) (by simp [results, Tryz.results171, go_sem, Inf.val, d0, d1, d2, d3, d4]) rfl ⟨rfl, ?_⟩
    exact (((((HB.out.setCell (by simp) _).setCell (by simp) _).setCell (by simp) _).setCell (by simp) _).setCell (by simp) _)
  · rw [if_neg hv]
    go_enter Tryz.func171, Tryz.ntmps171
    go_wp2_with fail
    go_region_held3 (fun w' => w'.cell? ⟨sb, 0, none⟩ = some (.slice (some ⟨g, 0, none⟩) m cap) ∧ w'.cell? ⟨w.heap.size, 1, none⟩ = some (.int .i64 i) ∧ w'.cell? ⟨g, i * 8, none⟩ = some (.string nm) ∧ w'.cell? ⟨g, i * 8 + 1, none⟩ = some (.int .i64 vr) ∧ w'.cell? ⟨g, i * 8 + 2, none⟩ = some (.slice iq ia ib) ∧ w'.cell? ⟨g, i * 8 + 3, none⟩ = some (.int .i64 nd) ∧ w'.cell? ⟨g, i * 8 + 4, none⟩ = some (.int .i64 nt) ∧ w'.cell? ⟨g, i * 8 + 5, none⟩ = some (.int .i64 hg) ∧ w'.cell? ⟨g, i * 8 + 6, none⟩ = some (.int .i64 st) ∧ w'.cell? ⟨g, i * 8 + 7, none⟩ = some (.bool sr)) (go_keep) (fail)
    clear k0 k1 k2 k3 k4 k5 k6 k7 H0
    go_wp2_with fail
    refine (ref_many _ _).mono ?_
    rintro e w1 ⟨rfl, rfl⟩
    go_wp2_with fail
    exact bodyPost_ret (v := (⟨nd, nt, hg, min (st + 1) 1000000001, sr⟩ : Inf).val) (by simp [results, Tryz.results171, go_sem, Inf.val]) rfl ⟨rfl, (((((Below.refl _ _).alloc (Nat.le_refl _) _).alloc (by simp) _).alloc (by simp; omega) _).alloc (by simp; omega) _).drew⟩

end Go.Proofs.YtcphhbofjkenaaaGreatDoor
