/- The document's answer: what is known of an if. -/
import Derived.Test.YtcphhbofjkenaaaGreatDoorM07
import Derived.Test.YtcphhbofjkenaaaGreatDoorM08
import Derived.Test.YtcphhbofjkenaaaGreatDoorM11

namespace Go.Proofs.YtcphhbofjkenaaaGreatDoor
open Go.RowKit
set_option linter.unusedVariables false
set_option linter.unusedSimpArgs false

/-- The two ways of an if. -/
def Inf.ways (a b : Inf) : Inf := ⟨max a.need b.need, a.net, max a.high b.high, max a.steps b.steps, false⟩
def Inf.more (a : Inf) : Inf := ⟨a.need, a.net, a.high, min (a.steps + 1) 1000000001, a.str⟩
theorem Inf.Ok.ways {a b : Inf} (ha : a.Ok) (hb : b.Ok) : (a.ways b).Ok := by
  obtain ⟨a1, a2, a3, a4, a5, a6, a7, a8⟩ := ha
  obtain ⟨b1, b2, b3, b4, b5, b6, b7, b8⟩ := hb
  constructor <;> simp only [Inf.ways] <;> omega
theorem plain10_ok : (Inf.plain 1 0).Ok := by constructor <;> simp only [Inf.plain] <;> omega
theorem Inf.Ok.more {a : Inf} (ha : a.Ok) : a.more.Ok := by
  obtain ⟨a1, a2, a3, a4, a5, a6, a7, a8⟩ := ha
  constructor <;> simp only [Inf.more] <;> omega

set_option maxHeartbeats 2000000 in
theorem ref_of_if (sb : Nat) (n s A B : Value) (hn : n.oneCell' = true) (hs : s.oneCell' = true) (hA : A.oneCell' = true) (hB : B.oneCell' = true) (a b : Inf) (ha : a.Ok) (hb : b.Ok) (w : World)
    (hcA : ∀ w', Below w.heap.size w w' → Calls Tryz.prog 130 #[.pointer (some ⟨sb, 0, none⟩), A] w' fun e w'' => e = .returned a.val ∧ Below w'.heap.size w' w'')
    (hcB : ∀ w', Below w.heap.size w w' → Calls Tryz.prog 130 #[.pointer (some ⟨sb, 0, none⟩), B] w' fun e w'' => e = .returned b.val ∧ Below w'.heap.size w' w'') :
    Calls Tryz.prog 171 #[.pointer (some ⟨sb, 0, none⟩), .agg #[.int .i64 4, n, s, A, B]] w fun e w' => e = .returned ((Inf.plain 1 0).then (Inf.ways a b)).val ∧ Below w.heap.size w w' := by
  have HA := hidden hcA; have HB := hidden hcB; have HOa := hidden ha; have HOb := hidden hb
  have s0 := ha.s0; have s1 := ha.s1
  obtain ⟨R, hR⟩ : ∃ R, R = (Inf.plain 1 0).then (Inf.ways a b) := ⟨_, rfl⟩
  rw [← hR]
  have HR := hidden hR
  clear hcA hcB ha hb hR
  go_enter Tryz.func171, Tryz.ntmps171
  go_wp2_with fail
  refine (HA.out _ (((Below.refl _ _).alloc (Nat.le_refl _) _).alloc (by simp) _)).mono ?_
  rintro e w1 ⟨rfl, hb1⟩
  have hb1' := norm2 hb1
  have HB1 := hidden hb1'
  have x0 : w1.cell? ⟨w.heap.size, 0, none⟩ = some (.int .i64 4) := by rw [hb1'.cell (p := ⟨w.heap.size, 0, none⟩) (by simp; omega)]; simp
  have x4 : w1.cell? ⟨w.heap.size, 4, none⟩ = some B := by rw [hb1'.cell (p := ⟨w.heap.size, 4, none⟩) (by simp; omega)]; simp
  have hz1 : Blk w1 (w.heap.size + 1) zero5 36 := (hb1'.block _ (by omega)).trans (res_blk w _ _)
  have HZ1 := hidden hz1
  have hsz1 : w.heap.size + 1 < w1.heap.size := hz1.lt
  have hsz0 : w.heap.size < w1.heap.size := by omega
  clear hb1 hb1' hz1
  unfold Inf.val
  go_wp2_with fail
  refine (HB.out _ ((below2 HB1.out).alloc (by omega) _)).mono ?_
  rintro e w2 ⟨rfl, hb2⟩
  have hb2' : Below (w1.heap.size + 1) (w1.alloc (.cells a.arr 36 (0, 0))) w2 := by simpa [Inf.arr] using hb2
  have y0 : w2.cell? ⟨w.heap.size, 0, none⟩ = some (.int .i64 4) := by rw [hb2'.cell (p := ⟨w.heap.size, 0, none⟩) (by simp; omega), ((Chg.refl (fun _ => False) w1).alloc _).cell (p := ⟨w.heap.size, 0, none⟩) hsz0 id]; exact x0
  have hz2 : Blk w2 (w.heap.size + 1) zero5 36 := (hb2'.block _ (by omega)).trans (HZ1.out.alloc _)
  have hza : Blk w2 w1.heap.size a.arr 36 := (hb2'.block _ (by omega)).trans (blk_new w1 _ _)
  have hbA : Below w.heap.size w w2 := (below2 HB1.out).trans ((below1 hb2').mono (by omega))
  have HZ2 := hidden hz2; have HZA := hidden hza; have HBA := hidden hbA
  have hsz2 : w1.heap.size < w2.heap.size := hza.lt
  have hsz3 : w.heap.size < w2.heap.size := by omega
  have hsz4 : w.heap.size + 1 < w2.heap.size := by omega
  obtain ⟨c0, c1, c2, c3, c4⟩ := hza.inf
  obtain ⟨f0, f1, f2, f3, f4⟩ := hza.free
  clear hb2 hb2' hz2 hza hbA x0 x4
  unfold Inf.val
  go_wp2_with (go_at_call 195; refine (ref_many _ _).mono ?_; rintro e w3 ⟨rfl, rfl⟩)
  obtain ⟨W, hW⟩ : ∃ W : World, W = ((w2.alloc (.cells b.arr 36 (0, 0))).alloc (.cells (Inf.ways a b).arr 36 (0, 0))) := ⟨_, rfl⟩
  have hsz : W.heap.size = w2.heap.size + 1 + 1 := by rw [hW]; simp
  have hl := fun (o : Nat) (v : Value) (hv : (Inf.ways a b).arr[o]? = some v) => (show W.cell? ⟨w2.heap.size + 1, o, none⟩ = some v by
    have hbk := blk_new (w2.alloc (.cells b.arr 36 (0, 0))) (Inf.ways a b).arr 36
    have e1 : (w2.alloc (.cells b.arr 36 (0, 0))).heap.size = w2.heap.size + 1 := by simp
    rw [e1] at hbk
    rw [hW]; exact hbk.cell o v hv)
  have hrz : Blk W (w.heap.size + 1) zero5 36 := by
    rw [hW]; exact (HZ2.out.alloc _).alloc _
  have hbW : Below w.heap.size w W := by
    rw [hW]; exact (HBA.out.alloc (by omega) _).alloc (by simp; omega) _
  have HW := hidden hW; have HRZ := hidden hrz; have HBW := hidden hbW
  have u0 := hl 0 _ rfl; have u1 := hl 1 _ rfl; have u2 := hl 2 _ rfl; have u3 := hl 3 _ rfl; have u4 := hl 4 _ rfl
  clear hl hrz hbW c0 c1 c2 c3 c4 f0 f1 f2 f3 f4 y0
  have hc := fun (u : Und (w2.heap.size + 1 + 1) W) (o : Nat) => u.cell (w2.heap.size + 1) o (by omega)
  have hne := Und.ne
  have hle : w2.heap.size + 1 + 1 ≤ W.heap.size := by omega
  show Code.wp _ _ _ _ ((w2.alloc (.cells b.arr 36 (0, 0))).alloc (.cells (Inf.ways a b).arr 36 (0, 0)))
  rw [← hW]
  clear hW hsz
  refine wp_region_und_tail (w2.heap.size + 1 + 1) 3 (by kernel_rfl) (by kernel_rfl) ?_
  simp only [List.take_succ_cons, List.take_zero, List.drop_succ_cons, List.drop_zero]
  repeat (go_big_quiet_step ((first | (go_at_call 194; exact Und.calls hle _ (ref_plain 1 0 _ (by omega) (by omega) (by omega) (by omega))) | (go_at_call 172; exact Und.calls hle _ (ref_then (Inf.plain 1 0) (Inf.ways a b) _ plain10_ok (Inf.Ok.ways HOa.out HOb.out))))))
  refine wpQuiet_nil ?_
  intro u
  obtain ⟨w3, hb3⟩ := u
  have hz3 : Blk w3 (w.heap.size + 1) zero5 36 := (hb3.block _ (by omega)).trans HRZ.out
  have hB3 : Below w.heap.size w w3 := HBW.out.trans (hb3.mono (by omega))
  obtain ⟨d0, d1, d2, d3, d4⟩ := hz3.zero
  obtain ⟨g0, g1, g2, g3, g4⟩ := hz3.free
  have HB3 := hidden hB3
  dsimp only
  clear hz3 hB3 hb3 hc hne u0 u1 u2 u3 u4
  unfold Inf.val
  go_wp2_with fail
  refine bodyPost_ret (v := R.val) (by rw [HR.out]; simp [results, Tryz.results171, go_sem, Inf.val, d0, d1, d2, d3, d4]) rfl ⟨rfl, ?_⟩
  exact (((((HB3.out.setCell (by simp) _).setCell (by simp) _).setCell (by simp) _).setCell (by simp) _).setCell (by simp) _)

set_option maxHeartbeats 2000000 in
theorem ref_of_else (sb : Nat) (n s A B : Value) (hn : n.oneCell' = true) (hs : s.oneCell' = true) (hA : A.oneCell' = true) (hB : B.oneCell' = true) (a b : Inf) (ha : a.Ok) (hb : b.Ok) (w : World)
    (hcA : ∀ w', Below w.heap.size w w' → Calls Tryz.prog 130 #[.pointer (some ⟨sb, 0, none⟩), A] w' fun e w'' => e = .returned a.val ∧ Below w'.heap.size w' w'')
    (hcB : ∀ w', Below w.heap.size w w' → Calls Tryz.prog 130 #[.pointer (some ⟨sb, 0, none⟩), B] w' fun e w'' => e = .returned b.val ∧ Below w'.heap.size w' w'') :
    Calls Tryz.prog 171 #[.pointer (some ⟨sb, 0, none⟩), .agg #[.int .i64 5, n, s, A, B]] w fun e w' => e = .returned ((Inf.plain 1 0).then (Inf.ways a.more b)).val ∧ Below w.heap.size w w' := by
  have HA := hidden hcA; have HB := hidden hcB; have HOa := hidden ha; have HOb := hidden hb
  have s0 := ha.s0; have s1 := ha.s1
  obtain ⟨R, hR⟩ : ∃ R, R = (Inf.plain 1 0).then (Inf.ways a.more b) := ⟨_, rfl⟩
  rw [← hR]
  have HR := hidden hR
  clear hcA hcB ha hb hR
  go_enter Tryz.func171, Tryz.ntmps171
  go_wp2_with fail
  refine (HA.out _ (((Below.refl _ _).alloc (Nat.le_refl _) _).alloc (by simp) _)).mono ?_
  rintro e w1 ⟨rfl, hb1⟩
  have hb1' := norm2 hb1
  have HB1 := hidden hb1'
  have x0 : w1.cell? ⟨w.heap.size, 0, none⟩ = some (.int .i64 5) := by rw [hb1'.cell (p := ⟨w.heap.size, 0, none⟩) (by simp; omega)]; simp
  have x4 : w1.cell? ⟨w.heap.size, 4, none⟩ = some B := by rw [hb1'.cell (p := ⟨w.heap.size, 4, none⟩) (by simp; omega)]; simp
  have hz1 : Blk w1 (w.heap.size + 1) zero5 36 := (hb1'.block _ (by omega)).trans (res_blk w _ _)
  have HZ1 := hidden hz1
  have hsz1 : w.heap.size + 1 < w1.heap.size := hz1.lt
  have hsz0 : w.heap.size < w1.heap.size := by omega
  clear hb1 hb1' hz1
  unfold Inf.val
  go_wp2_with fail
  refine (HB.out _ ((below2 HB1.out).alloc (by omega) _)).mono ?_
  rintro e w2 ⟨rfl, hb2⟩
  have hb2' : Below (w1.heap.size + 1) (w1.alloc (.cells a.arr 36 (0, 0))) w2 := by simpa [Inf.arr] using hb2
  have y0 : w2.cell? ⟨w.heap.size, 0, none⟩ = some (.int .i64 5) := by rw [hb2'.cell (p := ⟨w.heap.size, 0, none⟩) (by simp; omega), ((Chg.refl (fun _ => False) w1).alloc _).cell (p := ⟨w.heap.size, 0, none⟩) hsz0 id]; exact x0
  have hz2 : Blk w2 (w.heap.size + 1) zero5 36 := (hb2'.block _ (by omega)).trans (HZ1.out.alloc _)
  have hza : Blk w2 w1.heap.size a.arr 36 := (hb2'.block _ (by omega)).trans (blk_new w1 _ _)
  have hbA : Below w.heap.size w w2 := (below2 HB1.out).trans ((below1 hb2').mono (by omega))
  have HZ2 := hidden hz2; have HZA := hidden hza; have HBA := hidden hbA
  have hsz2 : w1.heap.size < w2.heap.size := hza.lt
  have hsz3 : w.heap.size < w2.heap.size := by omega
  have hsz4 : w.heap.size + 1 < w2.heap.size := by omega
  obtain ⟨c0, c1, c2, c3, c4⟩ := hza.inf
  obtain ⟨f0, f1, f2, f3, f4⟩ := hza.free
  clear hb2 hb2' hz2 hza hbA x0 x4
  unfold Inf.val
  go_wp2_with (go_at_call 195; refine (ref_many _ _).mono ?_; rintro e w3 ⟨rfl, rfl⟩)
  obtain ⟨W, hW⟩ : ∃ W : World, W = (((w2.setCell ⟨w1.heap.size, 3, none⟩ (.int .i64 (min (a.steps + 1) 1000000001))).alloc (.cells b.arr 36 (0, 0))).alloc (.cells (Inf.ways a.more b).arr 36 (0, 0))) := ⟨_, rfl⟩
  have hsz : W.heap.size = w2.heap.size + 1 + 1 := by rw [hW]; simp
  have hl := fun (o : Nat) (v : Value) (hv : (Inf.ways a.more b).arr[o]? = some v) => (show W.cell? ⟨w2.heap.size + 1, o, none⟩ = some v by
    have hbk := blk_new ((w2.setCell ⟨w1.heap.size, 3, none⟩ (.int .i64 (min (a.steps + 1) 1000000001))).alloc (.cells b.arr 36 (0, 0))) (Inf.ways a.more b).arr 36
    have e1 : ((w2.setCell ⟨w1.heap.size, 3, none⟩ (.int .i64 (min (a.steps + 1) 1000000001))).alloc (.cells b.arr 36 (0, 0))).heap.size = w2.heap.size + 1 := by simp
    rw [e1] at hbk
    rw [hW]; exact hbk.cell o v hv)
  have hrz : Blk W (w.heap.size + 1) zero5 36 := by
    rw [hW]; exact ((HZ2.out.setOther (by simp; omega) _).alloc _).alloc _
  have hbW : Below w.heap.size w W := by
    rw [hW]; exact ((HBA.out.setCell (by simp; omega) _).alloc (by simp; omega) _).alloc (by simp; omega) _
  have HW := hidden hW; have HRZ := hidden hrz; have HBW := hidden hbW
  have u0 := hl 0 _ rfl; have u1 := hl 1 _ rfl; have u2 := hl 2 _ rfl; have u3 := hl 3 _ rfl; have u4 := hl 4 _ rfl
  clear hl hrz hbW c0 c1 c2 c3 c4 f0 f1 f2 f3 f4 y0
  have hc := fun (u : Und (w2.heap.size + 1 + 1) W) (o : Nat) => u.cell (w2.heap.size + 1) o (by omega)
  have hne := Und.ne
  have hle : w2.heap.size + 1 + 1 ≤ W.heap.size := by omega
  show Code.wp _ _ _ _ (((w2.setCell ⟨w1.heap.size, 3, none⟩ (.int .i64 (min (a.steps + 1) 1000000001))).alloc (.cells b.arr 36 (0, 0))).alloc (.cells (Inf.ways a.more b).arr 36 (0, 0)))
  rw [← hW]
  clear hW hsz
  refine wp_region_und_tail (w2.heap.size + 1 + 1) 3 (by kernel_rfl) (by kernel_rfl) ?_
  simp only [List.take_succ_cons, List.take_zero, List.drop_succ_cons, List.drop_zero]
  repeat (go_big_quiet_step ((first | (go_at_call 194; exact Und.calls hle _ (ref_plain 1 0 _ (by omega) (by omega) (by omega) (by omega))) | (go_at_call 172; exact Und.calls hle _ (ref_then (Inf.plain 1 0) (Inf.ways a.more b) _ plain10_ok (Inf.Ok.ways HOa.out.more HOb.out))))))
  refine wpQuiet_nil ?_
  intro u
  obtain ⟨w3, hb3⟩ := u
  have hz3 : Blk w3 (w.heap.size + 1) zero5 36 := (hb3.block _ (by omega)).trans HRZ.out
  have hB3 : Below w.heap.size w w3 := HBW.out.trans (hb3.mono (by omega))
  obtain ⟨d0, d1, d2, d3, d4⟩ := hz3.zero
  obtain ⟨g0, g1, g2, g3, g4⟩ := hz3.free
  have HB3 := hidden hB3
  dsimp only
  clear hz3 hB3 hb3 hc hne u0 u1 u2 u3 u4
  unfold Inf.val
  go_wp2_with fail
  refine bodyPost_ret (v := R.val) (by rw [HR.out]; simp [results, Tryz.results171, go_sem, Inf.val, d0, d1, d2, d3, d4]) rfl ⟨rfl, ?_⟩
  exact (((((HB3.out.setCell (by simp) _).setCell (by simp) _).setCell (by simp) _).setCell (by simp) _).setCell (by simp) _)

end Go.Proofs.YtcphhbofjkenaaaGreatDoor

/- The document's answer: what is known of a do. -/
namespace Go.Proofs.YtcphhbofjkenaaaGreatDoor
open Go.RowKit
set_option linter.unusedVariables false
set_option linter.unusedSimpArgs false

set_option maxHeartbeats 1000000 in
theorem ref_A0 (k n s A : Value) (g cap : Nat) (e0 : Int) (hk : k.oneCell' = true) (hn : n.oneCell' = true) (hs : s.oneCell' = true) (hA : A.oneCell' = true) (w : World) (hc2 : 2 ≤ cap)
    (hc : w.cell? ⟨g, 1, none⟩ = some (.int .i64 e0)) :
    Calls Tryz.prog 196 #[.agg #[k, n, s, A, .slice (some ⟨g, 0, none⟩) 2 cap]] w fun e w' => e = .returned (.int .i64 e0) ∧ Below w.heap.size w w' := by
  have hg : g < w.heap.size := World.block_lt_of_cell? w _ hc
  go_enter Tryz.func196, Tryz.ntmps196
  go_wp2
  go_ret
  exact ⟨rfl, (Below.refl _ _).alloc (Nat.le_refl _) _⟩

set_option maxHeartbeats 1000000 in
theorem ref_A1 (k n s A : Value) (g cap : Nat) (e1 : Int) (hk : k.oneCell' = true) (hn : n.oneCell' = true) (hs : s.oneCell' = true) (hA : A.oneCell' = true) (w : World) (hc2 : 2 ≤ cap)
    (hc : w.cell? ⟨g, 6, none⟩ = some (.int .i64 e1)) :
    Calls Tryz.prog 197 #[.agg #[k, n, s, A, .slice (some ⟨g, 0, none⟩) 2 cap]] w fun e w' => e = .returned (.int .i64 e1) ∧ Below w.heap.size w w' := by
  have hg : g < w.heap.size := World.block_lt_of_cell? w _ hc
  go_enter Tryz.func197, Tryz.ntmps197
  go_wp2
  go_ret
  exact ⟨rfl, (Below.refl _ _).alloc (Nat.le_refl _) _⟩

/-- So many times. -/
def Inf.times (a : Inf) (n : Int) : Inf := if n = 0 then ⟨0, 0, 0, 0, a.str⟩ else ⟨a.need, a.net, a.high, min (n * min (a.steps + 1) 1000000001) 1000000001, a.str⟩
theorem Inf.Ok.times {a : Inf} (ha : a.Ok) {n : Int} (h0 : 0 ≤ n) (h1 : n ≤ 1000) : (a.times n).Ok := by
  obtain ⟨a1, a2, a3, a4, a5, a6, a7, a8⟩ := ha
  have hp : 0 ≤ n * min (a.steps + 1) 1000000001 := Int.mul_nonneg h0 (by omega)
  unfold Inf.times
  split <;> constructor <;> simp only <;> omega
theorem plain20_ok : (Inf.plain 2 0).Ok := by constructor <;> simp only [Inf.plain] <;> omega

set_option maxHeartbeats 4000000 in
theorem ref_of_do (sb : Nat) (n s A : Value) (g cap : Nat) (e0 e1 : Int) (hn : n.oneCell' = true) (hs : s.oneCell' = true) (hA : A.oneCell' = true) (a : Inf) (ha : a.Ok) (w : World) (hc2 : 2 ≤ cap)
    (x0 : -2147483648 ≤ e0) (x1 : e0 ≤ 2147483647) (x2 : -2147483648 ≤ e1) (x3 : e1 ≤ 2147483647) (x4 : e0 - e1 ≤ 1000)
    (hb0 : w.cell? ⟨g, 1, none⟩ = some (.int .i64 e0)) (hb1 : w.cell? ⟨g, 6, none⟩ = some (.int .i64 e1))
    (hcA : ∀ w', Below w.heap.size w w' → Calls Tryz.prog 130 #[.pointer (some ⟨sb, 0, none⟩), A] w' fun e w'' => e = .returned a.val ∧ Below w'.heap.size w' w'') :
    Calls Tryz.prog 171 #[.pointer (some ⟨sb, 0, none⟩), .agg #[.int .i64 6, n, s, A, .slice (some ⟨g, 0, none⟩) 2 cap]] w fun e w' => e = .returned ((Inf.plain 2 0).then (a.times (max 0 (e0 - e1)))).val ∧ Below w.heap.size w w' := by
  have hg : g < w.heap.size := World.block_lt_of_cell? w _ hb0
  have HA := hidden hcA; have HOa := hidden ha
  have s0 := ha.s0; have s1 := ha.s1
  obtain ⟨R, hR⟩ : ∃ R, R = (Inf.plain 2 0).then (a.times (max 0 (e0 - e1))) := ⟨_, rfl⟩
  rw [← hR]
  have HR := hidden hR
  have HC0 := hidden hb0; have HC1 := hidden hb1
  clear hcA ha hR hb0 hb1
  go_enter Tryz.func171, Tryz.ntmps171
  go_wp2_with fail
  refine (HA.out _ (((Below.refl _ _).alloc (Nat.le_refl _) _).alloc (by simp) _)).mono ?_
  rintro e w1 ⟨rfl, hb1⟩
  have hb1' := norm2 hb1
  have HB1 := hidden hb1'
  have y0 : w1.cell? ⟨w.heap.size, 0, none⟩ = some (.int .i64 6) := by rw [hb1'.cell (p := ⟨w.heap.size, 0, none⟩) (by simp; omega)]; simp
  have y1 : w1.cell? ⟨w.heap.size, 1, none⟩ = some n := by rw [hb1'.cell (p := ⟨w.heap.size, 1, none⟩) (by simp; omega)]; simp
  have y2 : w1.cell? ⟨w.heap.size, 2, none⟩ = some s := by rw [hb1'.cell (p := ⟨w.heap.size, 2, none⟩) (by simp; omega)]; simp
  have y3 : w1.cell? ⟨w.heap.size, 3, none⟩ = some A := by rw [hb1'.cell (p := ⟨w.heap.size, 3, none⟩) (by simp; omega)]; simp
  have y4 : w1.cell? ⟨w.heap.size, 4, none⟩ = some (.slice (some ⟨g, 0, none⟩) 2 cap) := by rw [hb1'.cell (p := ⟨w.heap.size, 4, none⟩) (by simp; omega)]; simp
  have hz1 : Blk w1 (w.heap.size + 1) zero5 36 := (hb1'.block _ (by omega)).trans (res_blk w _ _)
  have HZ1 := hidden hz1
  have hsz1 : w.heap.size + 1 < w1.heap.size := hz1.lt
  have hsz0 : w.heap.size < w1.heap.size := by omega
  clear hb1 hb1' hz1
  unfold Inf.val
  go_wp2_with fail
  obtain ⟨W, hW⟩ : ∃ W : World, W = w1.alloc (.cells a.arr 36 (0, 0)) := ⟨_, rfl⟩
  have hsz : W.heap.size = w1.heap.size + 1 := by rw [hW]; simp
  have hba : Blk W w1.heap.size a.arr 36 := by rw [hW]; exact blk_new w1 _ _
  have hbr : Blk W (w.heap.size + 1) zero5 36 := by rw [hW]; exact HZ1.out.alloc _
  have hbW : Below w.heap.size w W := by rw [hW]; exact (below2 HB1.out).alloc (by omega) _
  have old : ∀ o v, w1.cell? ⟨w.heap.size, o, none⟩ = some v → ∀ u : Und (w1.heap.size + 1) W, u.val.cell? ⟨w.heap.size, o, none⟩ = some v := by
    intro o v h u
    rw [u.cell _ _ (by omega), hW, ((Chg.refl (fun _ => False) w1).alloc _).cell (p := ⟨w.heap.size, o, none⟩) hsz0 id]; exact h
  have v0 := old 0 _ y0; have v1 := old 1 _ y1; have v2 := old 2 _ y2; have v3 := old 3 _ y3; have v4 := old 4 _ y4
  have q0 : ∀ u : Und (w1.heap.size + 1) W, u.val.cell? ⟨g, 1, none⟩ = some (.int .i64 e0) := fun u => by
    rw [u.cell _ _ (by omega), hbW.cell (p := ⟨g, 1, none⟩) hg]; exact HC0.out
  have q1 : ∀ u : Und (w1.heap.size + 1) W, u.val.cell? ⟨g, 6, none⟩ = some (.int .i64 e1) := fun u => by
    rw [u.cell _ _ (by omega), hbW.cell (p := ⟨g, 6, none⟩) hg]; exact HC1.out
  have Q0 := hidden q0; have Q1 := hidden q1
  have HBA := hidden hba; have HBR := hidden hbr; have HBW := hidden hbW
  have hne := Und.ne
  have hle : w1.heap.size + 1 ≤ W.heap.size := by omega
  clear y0 y1 y2 y3 y4 old hba hbr hbW q0 q1
  show Code.wp _ _ _ _ (w1.alloc (.cells a.arr 36 (0, 0)))
  rw [← hW]
  clear hW hsz
  refine wp_region_und (w1.heap.size + 1) (by kernel_rfl) (by kernel_rfl) ?_
  repeat (go_big_quiet_step ((first | (go_at_call 196; exact Und.calls hle _ (ref_A0 _ _ _ _ g cap e0 rfl hn hs hA _ hc2 (Q0.out _))) | (go_at_call 197; exact Und.calls hle _ (ref_A1 _ _ _ _ g cap e1 rfl hn hs hA _ hc2 (Q1.out _))))))
  refine wpQuiet_nil ?_
  intro u
  obtain ⟨w2, hb2⟩ := u
  dsimp only
  have hba : Blk w2 w1.heap.size a.arr 36 := (hb2.block _ (by omega)).trans HBA.out
  have hbr : Blk w2 (w.heap.size + 1) zero5 36 := (hb2.block _ (by omega)).trans HBR.out
  have hbW : Below w.heap.size w w2 := HBW.out.trans (hb2.mono (by omega))
  have hsz2 : w1.heap.size < w2.heap.size := hba.lt
  obtain ⟨c0, c1, c2, c3, c4⟩ := hba.inf
  obtain ⟨f0, f1, f2, f3, f4⟩ := hba.free
  have KA := hidden hba; have KR := hidden hbr; have KW := hidden hbW
  clear hba hbr hbW hb2 v0 v1 v2 v3 v4 hne
  obtain ⟨t, ht⟩ : ∃ t, t = max 0 (e0 - e1) := ⟨_, rfl⟩
  have t0 : 0 ≤ t := by omega
  have t1 : t ≤ 1000 := by omega
  have HT := hidden ht
  rw [← ht]
  clear ht
  obtain ⟨ms, hms⟩ : ∃ ms, ms = min (a.steps + 1) 1000000001 := ⟨_, rfl⟩
  have m0 : 0 ≤ ms := by omega
  have m1 : ms ≤ 1000000001 := by omega
  have HM := hidden hms
  have hm1 : ∀ w, Calls Tryz.prog 195 #[.int .i64 (a.steps + 1)] w fun e w' => e = .returned (.int .i64 ms) ∧ w' = w := by rw [hms]; exact ref_many _
  clear hms
  have p0 : 0 ≤ t * ms := Int.mul_nonneg t0 m0
  have p1 : t * ms ≤ 1000000001000 := Int.le_trans (Int.mul_le_mul t1 m1 m0 (by omega)) (by decide)
  have HM1 := hidden hm1
  clear hm1
  by_cases hz : t = 0
  · have HZ := hidden hz
    have hzb : (t == 0) = true := by simpa using hz
    clear hz
    go_wp2_with fail
    refine (HM1.out _).mono ?_
    rintro e w3 ⟨rfl, rfl⟩
    go_wp2_with fail
    refine (ref_many _ _).mono ?_
    rintro e w4 ⟨rfl, rfl⟩
    go_wp2_with fail
    obtain ⟨X, hX⟩ : ∃ X : World, X = ((((((w4.setCell ⟨w1.heap.size, 3, none⟩ (.int .i64 (min (t * ms) 1000000001))).setCell ⟨w1.heap.size, 0, none⟩ (.int .i64 0)).setCell ⟨w1.heap.size, 1, none⟩ (.int .i64 0)).setCell ⟨w1.heap.size, 2, none⟩ (.int .i64 0)).setCell ⟨w1.heap.size, 3, none⟩ (.int .i64 0)).setCell ⟨w1.heap.size, 4, none⟩ (.bool a.str)) := ⟨_, rfl⟩
    have hsz : X.heap.size = w4.heap.size := by rw [hX]; simp [World.setCell]
    have hbx : Blk X w1.heap.size (a.times t).arr 36 := by
      rw [hX]
      have e : (a.times t).arr = #[.int .i64 0, .int .i64 0, .int .i64 0, .int .i64 0, .bool a.str] := by rw [Inf.times, if_pos HZ.out]; rfl
      rw [e]
      refine blk_set5 (a0 := .int .i64 a.need) (a1 := .int .i64 a.net) (a2 := .int .i64 a.high) (a3 := .int .i64 (min (t * ms) 1000000001)) (a4 := .bool a.str) ?_ _ _ _ _ _
      have := KA.out.set (o := 3) (.int .i64 (min (t * ms) 1000000001))
      simpa [Inf.arr] using this
    have hrx : Blk X (w.heap.size + 1) zero5 36 := by
      rw [hX]; exact ((((((KR.out.setOther (by simp; omega) _).setOther (by simp; omega) _).setOther (by simp; omega) _).setOther (by simp; omega) _).setOther (by simp; omega) _).setOther (by simp; omega) _)
    have hwx : Below w.heap.size w X := by
      rw [hX]; exact ((((((KW.out.setCell (by simp; omega) _).setCell (by simp; omega) _).setCell (by simp; omega) _).setCell (by simp; omega) _).setCell (by simp; omega) _).setCell (by simp; omega) _)
    obtain ⟨u0, u1, u2, u3, u4⟩ := hbx.inf
    have HRX := hidden hrx; have HWX := hidden hwx
    have hc := fun (u : Und (w4.heap.size) X) (o : Nat) => u.cell w1.heap.size o hsz2
    have hne := Und.ne
    have hle : w4.heap.size ≤ X.heap.size := by omega
    have hr1 : w.heap.size + 1 < w4.heap.size := by omega
    clear hbx hrx hwx c0 c1 c2 c3 c4 f0 f1 f2 f3 f4
    show Code.wp _ _ _ _ ((((((w4.setCell ⟨w1.heap.size, 3, none⟩ (.int .i64 (min (t * ms) 1000000001))).setCell ⟨w1.heap.size, 0, none⟩ (.int .i64 0)).setCell ⟨w1.heap.size, 1, none⟩ (.int .i64 0)).setCell ⟨w1.heap.size, 2, none⟩ (.int .i64 0)).setCell ⟨w1.heap.size, 3, none⟩ (.int .i64 0)).setCell ⟨w1.heap.size, 4, none⟩ (.bool a.str))
    rw [← hX]
    clear hX hsz
    refine wp_region_und_tail (w4.heap.size) 3 (by kernel_rfl) (by kernel_rfl) ?_
    simp only [List.take_succ_cons, List.take_zero, List.drop_succ_cons, List.drop_zero]
    repeat (go_big_quiet_step ((first | (go_at_call 194; exact Und.calls hle _ (ref_plain 2 0 _ (by omega) (by omega) (by omega) (by omega))) | (go_at_call 172; exact Und.calls hle _ (ref_then (Inf.plain 2 0) (a.times t) _ plain20_ok (Inf.Ok.times HOa.out t0 t1))))))
    refine wpQuiet_nil ?_
    intro u
    obtain ⟨w5, hb5⟩ := u
    dsimp only
    have hz5 : Blk w5 (w.heap.size + 1) zero5 36 := (hb5.block _ (by omega)).trans HRX.out
    have hB5 : Below w.heap.size w w5 := HWX.out.trans (hb5.mono (by omega))
    obtain ⟨d0, d1, d2, d3, d4⟩ := hz5.zero
    obtain ⟨g0, g1, g2, g3, g4⟩ := hz5.free
    have HB5 := hidden hB5
    clear hz5 hB5 hb5 hc hne u0 u1 u2 u3 u4
    unfold Inf.val
    go_wp2_with fail
    refine bodyPost_ret (v := R.val) (by rw [HR.out, ← HT.out]; simp [results, Tryz.results171, go_sem, Inf.val, d0, d1, d2, d3, d4]) rfl ⟨rfl, ?_⟩
    exact (((((HB5.out.setCell (by simp) _).setCell (by simp) _).setCell (by simp) _).setCell (by simp) _).setCell (by simp) _)
  · have hzb : (t == 0) = false := by simpa using hz
    have HZ := hidden hz
    clear hz
    go_wp2_with fail
    refine (HM1.out _).mono ?_
    rintro e w3 ⟨rfl, rfl⟩
    go_wp2_with fail
    refine (ref_many _ _).mono ?_
    rintro e w4 ⟨rfl, rfl⟩
    go_wp2_with fail
    obtain ⟨X, hX⟩ : ∃ X : World, X = (w4.setCell ⟨w1.heap.size, 3, none⟩ (.int .i64 (min (t * ms) 1000000001))) := ⟨_, rfl⟩
    have hsz : X.heap.size = w4.heap.size := by rw [hX]; simp [World.setCell]
    have hbx : Blk X w1.heap.size (a.times t).arr 36 := by
      rw [hX]
      have e : (a.times t).arr = #[.int .i64 a.need, .int .i64 a.net, .int .i64 a.high, .int .i64 (min (t * ms) 1000000001), .bool a.str] := by rw [Inf.times, if_neg HZ.out, HM.out]; rfl
      rw [e]
      have := KA.out.set (o := 3) (.int .i64 (min (t * ms) 1000000001))
      simpa [Inf.arr] using this
    have hrx : Blk X (w.heap.size + 1) zero5 36 := by
      rw [hX]; exact (KR.out.setOther (by simp; omega) _)
    have hwx : Below w.heap.size w X := by
      rw [hX]; exact (KW.out.setCell (by simp; omega) _)
    obtain ⟨u0, u1, u2, u3, u4⟩ := hbx.inf
    have HRX := hidden hrx; have HWX := hidden hwx
    have hc := fun (u : Und (w4.heap.size) X) (o : Nat) => u.cell w1.heap.size o hsz2
    have hne := Und.ne
    have hle : w4.heap.size ≤ X.heap.size := by omega
    have hr1 : w.heap.size + 1 < w4.heap.size := by omega
    clear hbx hrx hwx c0 c1 c2 c3 c4 f0 f1 f2 f3 f4
    show Code.wp _ _ _ _ (w4.setCell ⟨w1.heap.size, 3, none⟩ (.int .i64 (min (t * ms) 1000000001)))
    rw [← hX]
    clear hX hsz
    refine wp_region_und_tail (w4.heap.size) 3 (by kernel_rfl) (by kernel_rfl) ?_
    simp only [List.take_succ_cons, List.take_zero, List.drop_succ_cons, List.drop_zero]
    repeat (go_big_quiet_step ((first | (go_at_call 194; exact Und.calls hle _ (ref_plain 2 0 _ (by omega) (by omega) (by omega) (by omega))) | (go_at_call 172; exact Und.calls hle _ (ref_then (Inf.plain 2 0) (a.times t) _ plain20_ok (Inf.Ok.times HOa.out t0 t1))))))
    refine wpQuiet_nil ?_
    intro u
    obtain ⟨w5, hb5⟩ := u
    dsimp only
    have hz5 : Blk w5 (w.heap.size + 1) zero5 36 := (hb5.block _ (by omega)).trans HRX.out
    have hB5 : Below w.heap.size w w5 := HWX.out.trans (hb5.mono (by omega))
    obtain ⟨d0, d1, d2, d3, d4⟩ := hz5.zero
    obtain ⟨g0, g1, g2, g3, g4⟩ := hz5.free
    have HB5 := hidden hB5
    clear hz5 hB5 hb5 hc hne u0 u1 u2 u3 u4
    unfold Inf.val
    go_wp2_with fail
    refine bodyPost_ret (v := R.val) (by rw [HR.out, ← HT.out]; simp [results, Tryz.results171, go_sem, Inf.val, d0, d1, d2, d3, d4]) rfl ⟨rfl, ?_⟩
    exact (((((HB5.out.setCell (by simp) _).setCell (by simp) _).setCell (by simp) _).setCell (by simp) _).setCell (by simp) _)

end Go.Proofs.YtcphhbofjkenaaaGreatDoor

/- The document's answer: the reader's small steps. -/
namespace Go.Proofs.YtcphhbofjkenaaaGreatDoor
open Go.RowKit
set_option linter.unusedVariables false
set_option linter.unusedSimpArgs false

/-- The reader's cells. -/
def rdr (sb : Nat) (tv : Value) (I fin E A : Int) : Array Value := #[.pointer (some ⟨sb, 0, none⟩), tv, .int .i64 I, .int .i64 fin, .int .i64 E, .int .i64 A]

theorem Blk.rdr {w : World} {b : Nat} {t : TypeId} {sb : Nat} {tv : Value} {I fin E A : Int} (h : Blk w b (rdr sb tv I fin E A) t) :
    w.cell? ⟨b, 0, none⟩ = some (.pointer (some ⟨sb, 0, none⟩)) ∧ w.cell? ⟨b, 1, none⟩ = some tv ∧ w.cell? ⟨b, 2, none⟩ = some (.int .i64 I) ∧ w.cell? ⟨b, 3, none⟩ = some (.int .i64 fin) ∧ w.cell? ⟨b, 4, none⟩ = some (.int .i64 E) ∧ w.cell? ⟨b, 5, none⟩ = some (.int .i64 A) :=
  ⟨h.cell 0 _ rfl, h.cell 1 _ rfl, h.cell 2 _ rfl, h.cell 3 _ rfl, h.cell 4 _ rfl, h.cell 5 _ rfl⟩

def TokRow (w : World) (tv : Value) (toks : List Tk) : Prop := w.ownsRow 0 213 2 tv toks.length (tkCells toks)
def tokS (toks : List Tk) (i : Nat) : ByteArray := (toks.getD i (⟨#[]⟩, 0)).1
def plc (toks : List Tk) (fin : Int) (i : Nat) : Int := if i < toks.length then ((toks.getD i (⟨#[]⟩, 0)).2 : Int) else fin

theorem row_shape {w : World} {base : Nat} {e : TypeId} {size : Nat} {v : Value} {n : Nat} {xs : List Value} (h : w.ownsRow base e size v n xs) : ∃ ad cap, v = .slice ad n cap ∧ n ≤ cap ∧ cap ≤ maxLen := by
  rcases h.2 with ⟨rfl, rfl⟩ | ⟨g, cap, cur, rfl, _, _, h1, h2, _⟩
  · exact ⟨none, 0, rfl, Nat.le_refl _, Nat.zero_le _⟩
  · exact ⟨_, cap, rfl, h1, h2⟩

theorem tok_cell {w : World} {tv : Value} {toks : List Tk} (h : TokRow w tv toks) (i : Nat) (hi : i < toks.length) : ∃ g cap, tv = .slice (some ⟨g, 0, none⟩) toks.length cap ∧ toks.length ≤ cap ∧ g < w.heap.size ∧ w.cell? ⟨g, i * 2, none⟩ = some (.string (tokS toks i)) ∧ w.cell? ⟨g, i * 2 + 1, none⟩ = some (.int .i64 (plc toks 0 i)) := by
  obtain ⟨g, cap, hv, _, hg, h1, _, hc⟩ := row_cells h (by omega)
  refine ⟨g, cap, hv, h1, hg, hc _ _ ?_, hc _ _ ?_⟩
  · have := flat_get (fun t : Tk => [Value.string t.1, .int .i64 t.2]) 2 (fun _ => rfl) toks i 0 hi (by omega)
    rw [Nat.add_zero] at this
    rw [tkCells, this]; simp [tokS, hi]
  · have := flat_get (fun t : Tk => [Value.string t.1, .int .i64 t.2]) 2 (fun _ => rfl) toks i 1 hi (by omega)
    rw [tkCells, this]; simp [plc, hi]

set_option maxHeartbeats 1000000 in
theorem ref_next (rb sb : Nat) (tv : Value) (toks : List Tk) (i : Nat) (fin E A : Int) (w : World) (hi : i ≤ 1000000000) (hl : toks.length ≤ 1000000000)
    (hb : Blk w rb (rdr sb tv i fin E A) 181) (ht : TokRow w tv toks) :
    Calls Tryz.prog 88 #[.pointer (some ⟨rb, 0, none⟩)] w fun e w' => e = .returned (.string (tokS toks i)) ∧ Below w.heap.size w w' := by
  obtain ⟨r0, r1, r2, r3, r4, r5⟩ := hb.rdr
  by_cases hlt : i < toks.length
  · obtain ⟨g, cap, rfl, hc, hg, t0, _⟩ := tok_cell ht i hlt
    obtain ⟨x, hx⟩ : ∃ x, x = tokS toks i := ⟨_, rfl⟩
    rw [← hx] at t0 ⊢
    have hli : (i : Int) < (toks.length : Int) := by omega
    have hl0 : (0 : Int) ≤ (i : Int) := by omega
    clear hx ht hb
    go_enter Tryz.func88, Tryz.ntmps88
    go_wp2
    go_quiet (fail)
    go_wp2
    go_quiet (fail)
    go_wp2
    go_ret
    exact ⟨rfl, ⟨rfl, rfl, rfl, Nat.le_refl _, fun _ _ => rfl⟩⟩
  · obtain ⟨ad, cap, rfl, hc, _⟩ := row_shape ht
    have hx : tokS toks i = ⟨#[]⟩ := by simp [tokS, List.getD, List.getElem?_eq_none (by omega : toks.length ≤ i)]
    rw [hx]
    have hli : ¬ (i : Int) < (toks.length : Int) := by omega
    clear hx ht hb
    go_enter Tryz.func88, Tryz.ntmps88
    go_wp2
    go_quiet (fail)
    go_wp2
    go_ret
    exact ⟨rfl, ⟨rfl, rfl, rfl, Nat.le_refl _, fun _ _ => rfl⟩⟩

theorem Chg.one {rb : Nat} {w : World} {a : Addr} (h : a.block = rb) (u : Value) : Chg (fun k => k = rb) w (w.setCell a u) := (Chg.refl _ w).setCell h u

set_option maxHeartbeats 1000000 in
theorem ref_fails (rb sb : Nat) (tv : Value) (toks : List Tk) (i : Nat) (I fin A e : Int) (w : World) (hi : i ≤ 1000000000) (hl : toks.length ≤ 1000000000)
    (hb : Blk w rb (rdr sb tv I fin 0 A) 181) (ht : TokRow w tv toks) (hne : tv.ownBlock ≠ some rb) :
    Calls Tryz.prog 91 #[.pointer (some ⟨rb, 0, none⟩), .int .i64 e, .int .i64 i] w fun r w' => r = .returned (.tuple #[]) ∧ Blk w' rb (rdr sb tv I fin e (plc toks fin i)) 181 ∧ Chg (fun k => k = rb) w w' := by
  obtain ⟨r0, r1, r2, r3, r4, r5⟩ := hb.rdr
  have f4 := hb.frozen 4; have f5 := hb.frozen 5
  have HB := hidden hb
  by_cases hlt : i < toks.length
  · obtain ⟨g, cap, rfl, hc, hg, _, t1⟩ := tok_cell ht i hlt
    have hp : plc toks fin i = plc toks 0 i := by simp [plc, hlt]
    rw [hp]
    obtain ⟨x, hx⟩ : ∃ x, x = plc toks 0 i := ⟨_, rfl⟩
    rw [← hx] at t1 ⊢
    have hgr : g ≠ rb := fun e => hne (by rw [e]; rfl)
    have hli : (i : Int) < (toks.length : Int) := by omega
    have hl0 : (0 : Int) ≤ (i : Int) := by omega
    clear hx ht hb hp hne
    go_enter Tryz.func91, Tryz.ntmps91
    go_wp2
    go_end0
    refine ⟨rfl, ?_, ?_⟩
    · have := ((HB.out.set (o := 4) (.int .i64 e)).set (o := 5) (.int .i64 fin)).set (o := 5) (.int .i64 x)
      simpa [rdr] using this
    · exact (((Chg.refl (fun k => k = rb) w).setCell (p := ⟨rb, 4, none⟩) rfl _).setCell (p := ⟨rb, 5, none⟩) rfl _).setCell (p := ⟨rb, 5, none⟩) rfl _
  · obtain ⟨ad, cap, rfl, hc, _⟩ := row_shape ht
    have hp : plc toks fin i = fin := by simp [plc, hlt]
    rw [hp]
    have hli : ¬ (i : Int) < (toks.length : Int) := by omega
    clear ht hb hp hne
    go_enter Tryz.func91, Tryz.ntmps91
    go_wp2
    go_end0
    refine ⟨rfl, ?_, ?_⟩
    · have := (HB.out.set (o := 4) (.int .i64 e)).set (o := 5) (.int .i64 fin)
      simpa [rdr] using this
    · exact ((Chg.refl (fun k => k = rb) w).setCell (p := ⟨rb, 4, none⟩) rfl _).setCell (p := ⟨rb, 5, none⟩) rfl _

end Go.Proofs.YtcphhbofjkenaaaGreatDoor

/- The document's answer: an item that is a word. -/
namespace Go.Proofs.YtcphhbofjkenaaaGreatDoor
open Go.RowKit
set_option linter.unusedVariables false
set_option linter.unusedSimpArgs false

def tI : ByteArray := ⟨#[105]⟩
/-- The error of a word (0: none). -/
def wordE (ws : List RW) (t : ByteArray) (loops : Int) : Int :=
  if 0 ≤ findW ws t then 0 else if (thereS t).2.2 = false then 3 else if (t.toList == [105]) = true ∧ loops = 0 then 5 else 0
/-- Its item. -/
def wordV (ws : List RW) (t : ByteArray) : Array Value :=
  if 0 ≤ findW ws t then #[.int .i64 3, .int .i64 (findW ws t), .string ⟨#[]⟩, .slice none 0 0, .slice none 0 0]
  else #[.int .i64 2, .int .i64 0, .string t, .slice none 0 0, .slice none 0 0]
def item0 : Array Value := #[.int .i64 0, .int .i64 0, .string ⟨#[]⟩, .slice none 0 0, .slice none 0 0]

theorem TokRow.chg {S : Nat → Prop} {w w' : World} {tv : Value} {toks : List Tk} (h : TokRow w tv toks) (hc : Chg S w w') (hs : ∀ k, tv.ownBlock = some k → ¬ S k) : TokRow w' tv toks := ownsRow_chg h hc hs
theorem TokRow.alloc {w : World} {tv : Value} {toks : List Tk} (h : TokRow w tv toks) (o : Obj) : TokRow (w.alloc o) tv toks := h.chg ((Chg.refl (fun _ => False) w).alloc o) (fun _ _ => id)
theorem RefSys.chg {S : Nat → Prop} {w w' : World} {sb : Nat} {v : Value} {ws : List RW} {c k : Int} (h : RefSys w sb v ws c k) (hc : Chg S w w') (h1 : ¬ S sb) (h2 : ∀ k, v.ownBlock = some k → ¬ S k) : RefSys w' sb v ws c k :=
  ⟨h.blk.chg hc h1, ownsRow_chg h.row hc h2, h.apart⟩
theorem RefSys.alloc {w : World} {sb : Nat} {v : Value} {ws : List RW} {c k : Int} (h : RefSys w sb v ws c k) (o : Obj) : RefSys (w.alloc o) sb v ws c k :=
  h.chg ((Chg.refl (fun _ => False) w).alloc o) id (fun _ _ => id)

set_option maxHeartbeats 2000000 in
theorem ref_word_ok (rb sb : Nat) (tv : Value) (toks : List Tk) (I : Nat) (fin A loops : Int) (v : Value) (ws : List RW) (c k : Int) (t : ByteArray) (w : World) (hws : ws.length ≤ 1100000)
    (hb : Blk w rb (rdr sb tv I fin 0 A) 181) (hS : RefSys w sb v ws c k) (h0 : wordE ws t loops = 0) :
    Calls Tryz.prog 170 #[.pointer (some ⟨rb, 0, none⟩), .string t, .int .i64 loops] w fun e w' => e = .returned (.tuple #[.agg (wordV ws t), .bool true]) ∧ Below w.heap.size w w' := by
  obtain ⟨r0, r1, r2, r3, r4, r5⟩ := hb.rdr
  have hlt := hb.lt
  have HF := hidden (fun o : Obj => ref_find t (w.alloc o) (hS.alloc o) hws)
  have HT := hidden (ref_there t)
  obtain ⟨r, hr⟩ : ∃ r, r = findW ws t := ⟨_, rfl⟩
  obtain ⟨ta, tp, tb, htt⟩ : ∃ a b c, thereS t = (a, b, c) := ⟨_, _, _, rfl⟩
  rw [← hr] at HF
  rw [htt] at HT
  have HV : Hid (wordV ws t = if 0 ≤ r then #[.int .i64 3, .int .i64 r, .string ⟨#[]⟩, .slice none 0 0, .slice none 0 0] else #[.int .i64 2, .int .i64 0, .string t, .slice none 0 0, .slice none 0 0]) := by show wordV ws t = _; rw [wordV, hr]
  have HE : Hid ((if 0 ≤ r then 0 else if tb = false then 3 else if (t.toList == [105]) = true ∧ loops = 0 then 5 else 0) = (0 : Int)) := by
    show _ = _; rw [wordE, htt, ← hr] at h0; exact h0
  obtain ⟨V, hV⟩ : ∃ V, V = wordV ws t := ⟨_, rfl⟩
  rw [← hV]
  have HV2 := hidden hV
  clear hr htt h0 hS hb hV
  by_cases hp : 0 ≤ r
  · have HX : Hid (V = #[.int .i64 3, .int .i64 r, .string ⟨#[]⟩, .slice none 0 0, .slice none 0 0]) := by have := HV2.out; rw [HV.out, if_pos hp] at this; exact this
    go_enter Tryz.func170, Tryz.ntmps170
    go_wp2_with (go_at_call 93; refine (HF.out _).mono ?_; rintro e w' ⟨rfl, rfl⟩)
    exact bodyPost_ret (v := .tuple #[.agg V, .bool true]) (by rw [HX.out]; simp [results, Tryz.results170, go_sem]) rfl ⟨rfl, (Below.refl _ _).alloc (Nat.le_refl _) _⟩
  · have HX : Hid (V = #[.int .i64 2, .int .i64 0, .string t, .slice none 0 0, .slice none 0 0]) := by have := HV2.out; rw [HV.out, if_neg hp] at this; exact this
    have hE := HE.out
    rw [if_neg hp] at hE
    have htb : tb = true := by
      cases tb with
      | true => rfl
      | false => simp at hE
    subst htb
    have hE2 : ¬ ((t.toList == [105]) = true ∧ loops = 0) := by
      intro h; simp only [Bool.true_eq_false, if_false] at hE; rw [if_pos h] at hE; cases hE
    clear hE HE
    by_cases hi : (t.toList == [105]) = true
    · have hl : (loops == 0) = false := by
        rw [beq_eq_false_iff_ne]; intro e; exact hE2 ⟨hi, e⟩
      clear hE2
      go_enter Tryz.func170, Tryz.ntmps170
      go_wp2_with (first | (go_at_call 93; refine (HF.out _).mono ?_; rintro e w' ⟨rfl, rfl⟩) | (go_at_call 193; refine (HT.out _).mono ?_; rintro e w' ⟨rfl, rfl⟩))
      exact bodyPost_ret (v := .tuple #[.agg V, .bool true]) (by rw [HX.out]; simp [results, Tryz.results170, go_sem]) rfl ⟨rfl, (Below.refl _ _).alloc (Nat.le_refl _) _⟩
    · have hi' : (t.toList == [105]) = false := by simpa using hi
      clear hE2 hi
      go_enter Tryz.func170, Tryz.ntmps170
      go_wp2_with (first | (go_at_call 93; refine (HF.out _).mono ?_; rintro e w' ⟨rfl, rfl⟩) | (go_at_call 193; refine (HT.out _).mono ?_; rintro e w' ⟨rfl, rfl⟩))
      exact bodyPost_ret (v := .tuple #[.agg V, .bool true]) (by rw [HX.out]; simp [results, Tryz.results170, go_sem]) rfl ⟨rfl, (Below.refl _ _).alloc (Nat.le_refl _) _⟩

/-- What came behind wrote only into what was new. -/
theorem Chg.trans_new {S : Nat → Prop} {w w1 w2 : World} {b : Nat} (h : Chg S w w1) (hb : b < w.heap.size) (h2 : Chg (fun k => k = w.heap.size) w1 w2) : Chg S w w2 :=
  ⟨h2.os.trans h.os, h2.tape.trans h.tape, h2.output.trans h.output, Nat.le_trans h.size h2.size, fun k hk hn => (h2.block k (Nat.lt_of_lt_of_le hk h.size) (by omega)).trans (h.block k hk hn)⟩

theorem item0_set {w : World} {b : Nat} {t : TypeId} (h : Blk w b item0 t) :
    Blk (((((w.setCell ⟨b, 0, none⟩ (.int .i64 0)).setCell ⟨b, 1, none⟩ (.int .i64 0)).setCell ⟨b, 2, none⟩ (.string ⟨#[]⟩)).setCell ⟨b, 3, none⟩ (.slice none 0 0)).setCell ⟨b, 4, none⟩ (.slice none 0 0)) b item0 t :=
  blk_set5 h _ _ _ _ _

theorem Blk.item0 {w : World} {b : Nat} {t : TypeId} (h : Blk w b item0 t) : w.cell? ⟨b, 0, none⟩ = some (.int .i64 0) ∧ w.cell? ⟨b, 1, none⟩ = some (.int .i64 0) ∧ w.cell? ⟨b, 2, none⟩ = some (.string ⟨#[]⟩) ∧ w.cell? ⟨b, 3, none⟩ = some (.slice none 0 0) ∧ w.cell? ⟨b, 4, none⟩ = some (.slice none 0 0) :=
  ⟨h.cell 0 _ rfl, h.cell 1 _ rfl, h.cell 2 _ rfl, h.cell 3 _ rfl, h.cell 4 _ rfl⟩

set_option maxHeartbeats 2000000 in
theorem ref_word_err (rb sb : Nat) (tv : Value) (toks : List Tk) (I : Nat) (fin A loops : Int) (v : Value) (ws : List RW) (c k : Int) (t : ByteArray) (w : World) (hws : ws.length ≤ 1100000) (hI : I ≤ 1000000000) (hl : toks.length ≤ 1000000000)
    (hb : Blk w rb (rdr sb tv I fin 0 A) 181) (ht : TokRow w tv toks) (hne : tv.ownBlock ≠ some rb) (hS : RefSys w sb v ws c k) (h0 : wordE ws t loops ≠ 0) :
    Calls Tryz.prog 170 #[.pointer (some ⟨rb, 0, none⟩), .string t, .int .i64 loops] w fun e w' => e = .returned (.tuple #[.agg item0, .bool false]) ∧ Blk w' rb (rdr sb tv I fin (wordE ws t loops) (plc toks fin I)) 181 ∧ Chg (fun k => k = rb) w w' := by
  obtain ⟨r0, r1, r2, r3, r4, r5⟩ := hb.rdr
  have hlt := hb.lt
  have HF := hidden (fun o : Obj => ref_find t (w.alloc o) (hS.alloc o) hws)
  have HT := hidden (ref_there t)
  have HX := hidden (fun (o : Obj) (e : Int) => ref_fails rb sb tv toks I I fin A e (w.alloc o) hI hl (hb.alloc o) (ht.alloc o) hne)
  have HB := hidden hb
  obtain ⟨r, hr⟩ : ∃ r, r = findW ws t := ⟨_, rfl⟩
  obtain ⟨ta, tp, tb, htt⟩ : ∃ a b c, thereS t = (a, b, c) := ⟨_, _, _, rfl⟩
  rw [← hr] at HF
  rw [htt] at HT
  obtain ⟨E, hE⟩ : ∃ E, E = wordE ws t loops := ⟨_, rfl⟩
  rw [← hE] at h0 ⊢
  have HE : Hid (E = (if 0 ≤ r then 0 else if tb = false then 3 else if (t.toList == [105]) = true ∧ loops = 0 then 5 else 0)) := by
    show _ = _; rw [wordE, htt, ← hr] at hE; exact hE
  clear hr htt hS hb hE
  have hp : ¬ 0 ≤ r := by intro hp; have := HE.out; rw [if_pos hp] at this; exact h0 this
  have hi0 := fun o : Obj => hlt
  cases tb with
  | false =>
    obtain rfl : E = 3 := by have := HE.out; rw [if_neg hp] at this; simpa using this
    clear HE h0
    go_enter Tryz.func170, Tryz.ntmps170
    go_wp2_with (first | (go_at_call 93; refine (HF.out _).mono ?_; rintro e w' ⟨rfl, rfl⟩) | (go_at_call 193; refine (HT.out _).mono ?_; rintro e w' ⟨rfl, rfl⟩))
    refine (HX.out _ _).mono ?_
    rintro e w1 ⟨rfl, hb1, hc1⟩
    have hz : Blk w1 w.heap.size item0 249 := (blk_new w item0 249).chg hc1 (by omega)
    have hC : Chg (fun k => k = rb) w w1 := ((Chg.refl (fun k => k = rb) w).alloc _).trans hc1
    obtain ⟨d0, d1, d2, d3, d4⟩ := hz.item0
    obtain ⟨g0, g1, g2, g3, g4⟩ := hz.free
    have HZ := hidden hz; have HC := hidden hC; have HB1 := hidden hb1
    have hsz := hz.lt
    clear hz hC hb1 hc1
    go_wp2_with fail
    refine bodyPost_ret (v := .tuple #[.agg item0, .bool false]) (by simp [results, Tryz.results170, go_sem, item0, d0, d1, d2, d3, d4]) rfl ⟨rfl, ?_, ?_⟩
    · exact ((((HB1.out.setOther (by simp; omega) _).setOther (by simp; omega) _).setOther (by simp; omega) _).setOther (by simp; omega) _).setOther (by simp; omega) _
    · refine (HC.out).trans_new hlt ?_
      exact (((((Chg.refl (fun k => k = w.heap.size) w1).setCell (p := ⟨w.heap.size, 0, none⟩) rfl _).setCell (p := ⟨w.heap.size, 1, none⟩) rfl _).setCell (p := ⟨w.heap.size, 2, none⟩) rfl _).setCell (p := ⟨w.heap.size, 3, none⟩) rfl _).setCell (p := ⟨w.heap.size, 4, none⟩) rfl _
  | true =>
    have hE := HE.out
    rw [if_neg hp] at hE
    simp only [Bool.true_eq_false, if_false] at hE
    have hc5 : (t.toList == [105]) = true ∧ loops = 0 := by
      rcases Classical.em ((t.toList == [105]) = true ∧ loops = 0) with h | h
      · exact h
      · rw [if_neg h] at hE; exact absurd hE h0
    rw [if_pos hc5] at hE
    subst hE
    obtain ⟨hi, hlz⟩ := hc5
    subst hlz
    clear HE h0
    go_enter Tryz.func170, Tryz.ntmps170
    go_wp2_with (first | (go_at_call 93; refine (HF.out _).mono ?_; rintro e w' ⟨rfl, rfl⟩) | (go_at_call 193; refine (HT.out _).mono ?_; rintro e w' ⟨rfl, rfl⟩))
    refine (HX.out _ _).mono ?_
    rintro e w1 ⟨rfl, hb1, hc1⟩
    have hz : Blk w1 w.heap.size item0 249 := (blk_new w item0 249).chg hc1 (by omega)
    have hC : Chg (fun k => k = rb) w w1 := ((Chg.refl (fun k => k = rb) w).alloc _).trans hc1
    obtain ⟨d0, d1, d2, d3, d4⟩ := hz.item0
    obtain ⟨g0, g1, g2, g3, g4⟩ := hz.free
    have HZ := hidden hz; have HC := hidden hC; have HB1 := hidden hb1
    have hsz := hz.lt
    clear hz hC hb1 hc1
    go_wp2_with fail
    refine bodyPost_ret (v := .tuple #[.agg item0, .bool false]) (by simp [results, Tryz.results170, go_sem, item0, d0, d1, d2, d3, d4]) rfl ⟨rfl, ?_, ?_⟩
    · exact ((((HB1.out.setOther (by simp; omega) _).setOther (by simp; omega) _).setOther (by simp; omega) _).setOther (by simp; omega) _).setOther (by simp; omega) _
    · refine (HC.out).trans_new hlt ?_
      exact (((((Chg.refl (fun k => k = w.heap.size) w1).setCell (p := ⟨w.heap.size, 0, none⟩) rfl _).setCell (p := ⟨w.heap.size, 1, none⟩) rfl _).setCell (p := ⟨w.heap.size, 2, none⟩) rfl _).setCell (p := ⟨w.heap.size, 3, none⟩) rfl _).setCell (p := ⟨w.heap.size, 4, none⟩) rfl _

end Go.Proofs.YtcphhbofjkenaaaGreatDoor

/- Reading items, as the document's answer does it; of no program's run. -/
namespace Go.Proofs.YtcphhbofjkenaaaGreatDoor
open Go Go.RowKit
set_option linter.unusedVariables false

/-- An item: the number that it is, if it is one; what is known of it. -/
structure AI where
  num : Option Int
  inf : Inf

/-- What reading items gives: the items, the token that ended them, and how far; or an error and its place. -/
abbrev PR := (List AI × ByteArray × Nat) ⊕ (Int × Int)

def tElse : ByteArray := ⟨#[101, 108, 115, 101]⟩
def tThen : ByteArray := ⟨#[116, 104, 101, 110]⟩
def tLoop : ByteArray := ⟨#[108, 111, 111, 112]⟩
def tSemi : ByteArray := ⟨#[59]⟩
def tColon : ByteArray := ⟨#[58]⟩
def tVar : ByteArray := ⟨#[118, 97, 114, 105, 97, 98, 108, 101]⟩
/-- Tokens that begin or end what does not stand here. -/
def stray : List ByteArray := [⟨#[]⟩, tElse, tThen, tLoop, tSemi, tColon, tVar]

def infAt (l : List AI) (j : Nat) : Inf := ((l.map AI.inf).getD j Inf.zero)
/-- What is known of items. -/
def infL (l : List AI) : Inf := upTo (infAt l) l.length

def ownInf (x : RW) : Inf := if 0 ≤ x.var then Inf.plain 0 1 else x.inf.more
/-- What is known of a word. -/
def wordI (ws : List RW) (t : ByteArray) : Inf :=
  if 0 ≤ findW ws t then
    match ws[(findW ws t).toNat]? with
    | some x => ownInf x
    | none => Inf.zero
  else Inf.plain (thereS t).1 (thereS t).2.1

/-- The two numbers that stand last. -/
def lastTwo (l : List AI) : Option (Int × Int) :=
  match l.reverse with
  | ⟨some b, _⟩ :: ⟨some a, _⟩ :: _ => some (a, b)
  | _ => none

section
variable (ws : List RW) (toks : List Tk) (fin : Int)

def pItems : Nat → List ByteArray → Int → List AI → Nat → PR
  | 0, _, _, _, _ => .inr (99, 0)
  | f + 1, ends, loops, acc, I =>
    if inL (tokS toks I) ends = true then .inl (acc, tokS toks I, I + 1)
    else if inL (tokS toks I) stray = true then .inr (5, plc toks fin I)
    else if (numS (tokS toks I)).2 = true then pItems f ends loops (acc ++ [⟨some (numS (tokS toks I)).1, Inf.plain 0 1⟩]) (I + 1)
    else if ((tokS toks I).toList == [105, 102]) = true then
      match pItems f [tElse, tThen] loops [] (I + 1) with
      | .inr r => .inr r
      | .inl (la, ta, I1) =>
        if (ta.toList == [101, 108, 115, 101]) = true then
          match pItems f [tThen] loops [] I1 with
          | .inr r => .inr r
          | .inl (lb, _, I2) => if (infL la).net = (infL lb).net then pItems f ends loops (acc ++ [⟨none, (Inf.plain 1 0).then ((infL la).more.ways (infL lb))⟩]) I2 else .inr (6, plc toks fin (I2 - 1))
        else if (infL la).net = 0 then pItems f ends loops (acc ++ [⟨none, (Inf.plain 1 0).then ((infL la).ways Inf.zero)⟩]) I1 else .inr (6, plc toks fin (I1 - 1))
    else if ((tokS toks I).toList == [100, 111]) = true then
      match lastTwo acc with
      | none => .inr (5, plc toks fin I)
      | some (a, b) =>
        if 1000 < a - b then .inr (7, plc toks fin I) else
          match pItems f [tLoop] (loops + 1) [] (I + 1) with
          | .inr r => .inr r
          | .inl (la, _, I1) => if (infL la).net = 0 then pItems f ends loops (acc ++ [⟨none, (Inf.plain 2 0).then ((infL la).times (max 0 (a - b)))⟩]) I1 else .inr (6, plc toks fin (I1 - 1))
    else if wordE ws (tokS toks I) loops = 0 then pItems f ends loops (acc ++ [⟨none, wordI ws (tokS toks I)⟩]) (I + 1)
    else .inr (wordE ws (tokS toks I) loops, plc toks fin I)
end

/-- One item in memory: what 'of' says of it, as long as the blocks F and the system stand. -/
def ItemOk (sb : Nat) (sv : Value) (ws : List RW) (sc sk : Int) (F : Nat → Prop) (w : World) (x : Array Value) (i : Inf) : Prop :=
  ∀ w', (∀ k, F k → w'.heap[k]? = w.heap[k]?) → RefSys w' sb sv ws sc sk →
    Calls Tryz.prog 171 #[.pointer (some ⟨sb, 0, none⟩), .agg x] w' fun e w'' => e = .returned i.val ∧ Below w'.heap.size w' w''

theorem ItemOk.mono {sb : Nat} {sv : Value} {ws : List RW} {sc sk : Int} {F G : Nat → Prop} {w w1 : World} {x : Array Value} {i : Inf} (h : ItemOk sb sv ws sc sk F w x i) (hf : ∀ k, F k → G k) (hw : ∀ k, F k → w1.heap[k]? = w.heap[k]?) : ItemOk sb sv ws sc sk G w1 x i :=
  fun w' h1 h2 => h w' (fun k hk => (h1 k (hf k hk)).trans (hw k hk)) h2

def five (x : Array Value) : Prop := ∃ (k n : Int) (s : ByteArray) (a1 : Option Addr) (n1 c1 : Nat) (a2 : Option Addr) (n2 c2 : Nat), x = #[.int .i64 k, .int .i64 n, .string s, .slice a1 n1 c1, .slice a2 n2 c2]

/-- The kind of an item in memory is a number's only if it is one. -/
def kindOk (x : Array Value) (a : AI) : Prop :=
  match a.num with
  | some n => x = #[.int .i64 1, .int .i64 n, .string ⟨#[]⟩, .slice none 0 0, .slice none 0 0] ∧ -2147483648 ≤ n ∧ n ≤ 2147483647
  | none => ∃ k : Int, x[0]? = some (.int .i64 k) ∧ k ≠ 1

/-- Items in memory, in a row of their own. -/
structure ItemsAt (sb : Nat) (sv : Value) (ws : List RW) (sc sk : Int) (w : World) (base : Nat) (v : Value) (l : List AI) (xs : List (Array Value)) (F : Nat → Prop) : Prop where
  len : xs.length = l.length
  row : w.ownsRow base 249 5 v l.length (xs.flatMap Array.toList)
  shape : ∀ x ∈ xs, five x
  kind : ∀ (i : Nat) (x : Array Value) (a : AI), xs[i]? = some x → l[i]? = some a → kindOk x a
  fp : ∀ k, F k → base ≤ k ∧ k < w.heap.size ∧ v.ownBlock ≠ some k
  ok : ∀ (i : Nat) (x : Array Value) (a : AI), xs[i]? = some x → l[i]? = some a → ItemOk sb sv ws sc sk F w x a.inf

/-- How great what is known may be, of so many tokens. -/
structure Inf.Wt (i : Inf) (q : Int) : Prop where
  n0 : -4000000000 * q ≤ i.need
  n1 : i.need ≤ 4000000000 * q
  t0 : -4000000000 * q ≤ i.net
  t1 : i.net ≤ 4000000000 * q
  h0 : 0 ≤ i.high
  h1 : i.high ≤ 4000000000 * q
  s0 : 0 ≤ i.steps
  s1 : i.steps ≤ 1000000001

theorem Inf.Wt.ok {i : Inf} {q : Int} (h : i.Wt q) (h0 : 0 ≤ q) (h1 : q ≤ 10000000) : i.Ok := by
  obtain ⟨a1, a2, a3, a4, a5, a6, a7, a8⟩ := h
  constructor <;> omega
theorem Inf.Wt.mono {i : Inf} {q r : Int} (h : i.Wt q) (hq : q ≤ r) : i.Wt r := by
  obtain ⟨a1, a2, a3, a4, a5, a6, a7, a8⟩ := h
  constructor <;> omega
theorem Inf.Wt.zero : Inf.zero.Wt 0 := by constructor <;> simp [Inf.zero]
theorem Inf.Wt.then {a b : Inf} {q r : Int} (ha : a.Wt q) (hb : b.Wt r) (hq : 0 ≤ q) (hr : 0 ≤ r) : (a.then b).Wt (q + r) := by
  obtain ⟨a1, a2, a3, a4, a5, a6, a7, a8⟩ := ha
  obtain ⟨b1, b2, b3, b4, b5, b6, b7, b8⟩ := hb
  constructor <;> simp only [Inf.then] <;> omega
theorem Inf.Wt.more {a : Inf} {q : Int} (ha : a.Wt q) : a.more.Wt q := by
  obtain ⟨a1, a2, a3, a4, a5, a6, a7, a8⟩ := ha
  constructor <;> simp only [Inf.more] <;> omega
theorem Inf.Wt.ways {a b : Inf} {q r : Int} (ha : a.Wt q) (hb : b.Wt r) (hq : 0 ≤ q) (hr : 0 ≤ r) : (a.ways b).Wt (q + r) := by
  obtain ⟨a1, a2, a3, a4, a5, a6, a7, a8⟩ := ha
  obtain ⟨b1, b2, b3, b4, b5, b6, b7, b8⟩ := hb
  constructor <;> simp only [Inf.ways] <;> omega
theorem Inf.Wt.times {a : Inf} {q n : Int} (ha : a.Wt q) (hq : 0 ≤ q) (h0 : 0 ≤ n) : (a.times n).Wt q := by
  obtain ⟨a1, a2, a3, a4, a5, a6, a7, a8⟩ := ha
  have hp : 0 ≤ n * min (a.steps + 1) 1000000001 := Int.mul_nonneg h0 (by omega)
  unfold Inf.times
  split <;> constructor <;> simp only <;> omega

theorem nsum_append : ∀ (a b : List Nat), (a ++ b).sum = a.sum + b.sum
  | [], b => by simp
  | x :: a, b => by simp only [List.cons_append, List.sum_cons]; rw [nsum_append a b]; omega
theorem nsum_mem : ∀ (a : List Nat) (x : Nat), x ∈ a → x ≤ a.sum
  | [], x, h => by simp at h
  | y :: a, x, h => by
    simp only [List.sum_cons]
    rcases List.mem_cons.1 h with rfl | h
    · omega
    · have := nsum_mem a x h; omega

/-- Items of so many tokens, each of its own. -/
def WtL (l : List AI) (q : Nat) : Prop := ∃ qs : List Nat, qs.length = l.length ∧ qs.sum ≤ q ∧ ∀ (j : Nat) (a : AI) (n : Nat), l[j]? = some a → qs[j]? = some n → a.inf.Wt n

theorem WtL.nil (q : Nat) : WtL [] q := ⟨[], rfl, by simp, fun j a n h => by simp at h⟩
theorem WtL.mono {l : List AI} {q r : Nat} (h : WtL l q) (hq : q ≤ r) : WtL l r := by
  obtain ⟨qs, a, b, c⟩ := h
  exact ⟨qs, a, by omega, c⟩
theorem WtL.snoc {l : List AI} {q r : Nat} {x : AI} (h : WtL l q) (hx : x.inf.Wt r) : WtL (l ++ [x]) (q + r) := by
  obtain ⟨qs, a, b, c⟩ := h
  refine ⟨qs ++ [r], by simp [a], by rw [nsum_append]; simp; omega, fun j y n h1 h2 => ?_⟩
  by_cases hj : j < l.length
  · rw [List.getElem?_append_left hj] at h1
    rw [List.getElem?_append_left (by omega)] at h2
    exact c j y n h1 h2
  · rw [List.getElem?_append_right (by omega)] at h1
    rw [List.getElem?_append_right (by omega)] at h2
    rw [a] at h2
    by_cases e : j - l.length = 0
    · rw [e] at h1 h2; simp at h1 h2; subst h1; subst h2; exact hx
    · rw [List.getElem?_eq_none (by simp; omega)] at h1; cases h1

theorem WtL.upTo {l : List AI} {q : Nat} (h : WtL l q) : ∀ j, j ≤ l.length → ∃ r : Nat, r ≤ q ∧ (upTo (infAt l) j).Wt r := by
  obtain ⟨qs, a, b, c⟩ := h
  have key : ∀ j, j ≤ l.length → (Go.Proofs.YtcphhbofjkenaaaGreatDoor.upTo (infAt l) j).Wt ((qs.take j).sum : Nat) := by
    intro j
    induction j with
    | zero => intro _; simpa [Go.Proofs.YtcphhbofjkenaaaGreatDoor.upTo] using Inf.Wt.zero
    | succ j ih =>
      intro hj
      have h1 := ih (by omega)
      have hl : l[j]? = some l[j] := List.getElem?_eq_getElem (by omega)
      have hq : qs[j]? = some qs[j] := List.getElem?_eq_getElem (by omega)
      have h2 := c j _ _ hl hq
      have e : infAt l j = l[j].inf := by simp [infAt, hl]
      rw [Go.Proofs.YtcphhbofjkenaaaGreatDoor.upTo, e]
      have h3 := h1.then h2 (by omega) (by omega)
      have hs : (qs.take (j + 1)).sum = (qs.take j).sum + qs[j] := by
        rw [List.take_succ_eq_append_getElem (by omega), nsum_append]; simp
      rw [hs]; simpa using h3
  intro j hj
  refine ⟨_, ?_, key j hj⟩
  have : (qs.take j).sum ≤ qs.sum := by
    have e := List.take_append_drop j qs
    have := congrArg List.sum e
    rw [nsum_append] at this; omega
  omega

theorem WtL.item {l : List AI} {q : Nat} (h : WtL l q) (j : Nat) (hj : j < l.length) : ∃ r : Nat, r ≤ q ∧ (infAt l j).Wt r := by
  obtain ⟨qs, a, b, c⟩ := h
  have hl : l[j]? = some l[j] := List.getElem?_eq_getElem (by omega)
  have hq : qs[j]? = some qs[j] := List.getElem?_eq_getElem (by omega)
  refine ⟨qs[j], ?_, ?_⟩
  · have := nsum_mem qs qs[j] (List.getElem_mem (by omega)); omega
  · have e : infAt l j = l[j].inf := by simp [infAt, hl]
    rw [e]; exact c j _ _ hl hq

end Go.Proofs.YtcphhbofjkenaaaGreatDoor

/- The document's answer: what is known of items that lie in memory. -/
namespace Go.Proofs.YtcphhbofjkenaaaGreatDoor
open Go Go.RowKit
set_option linter.unusedVariables false
set_option linter.unusedSimpArgs false

theorem five_size {x : Array Value} (h : five x) : x.toList.length = 5 := by
  obtain ⟨k, n, s, a1, n1, c1, a2, n2, c2, rfl⟩ := h; rfl

theorem flat5 : ∀ (xs : List (Array Value)) (_ : ∀ x ∈ xs, five x) (i j : Nat) (x : Array Value) (u : Value), xs[i]? = some x → x[j]? = some u → (xs.flatMap Array.toList)[i * 5 + j]? = some u
  | [], _, i, j, x, u, h, _ => by simp at h
  | y :: xs, hs, 0, j, x, u, h, hu => by
    simp at h; subst h
    simp only [List.flatMap_cons, Nat.zero_mul, Nat.zero_add]
    rw [List.getElem?_append_left (by
      have := (Array.getElem?_eq_some_iff.1 hu).1
      simpa using this)]
    simpa using hu
  | y :: xs, hs, i + 1, j, x, u, h, hu => by
    simp only [List.flatMap_cons]
    have hl := five_size (hs y (by simp))
    rw [List.getElem?_append_right (by omega), hl, show (i + 1) * 5 + j - 5 = i * 5 + j by omega]
    exact flat5 xs (fun z hz => hs z (by simp [hz])) i j x u (by simpa using h) hu

theorem same_lt {w w' : World} {b : Nat} (h : w'.heap[b]? = w.heap[b]?) (hb : b < w.heap.size) : b < w'.heap.size := by
  rw [Array.getElem?_eq_getElem hb] at h
  exact (Array.getElem?_eq_some_iff.1 h).1

theorem ItemsAt.all {sb : Nat} {sv : Value} {ws : List RW} {sc sk : Int} {w : World} {base : Nat} {v : Value} {l : List AI} {xs : List (Array Value)} {F : Nat → Prop} {q : Nat}
    (h : ItemsAt sb sv ws sc sk w base v l xs F) (hw : WtL l q) (hq : q ≤ 10000000) (hl : l.length ≤ 1100000) (w' : World)
    (h1 : ∀ k, F k → w'.heap[k]? = w.heap[k]?) (h2 : ∀ k, v.ownBlock = some k → w'.heap[k]? = w.heap[k]?) (hsz : w.heap.size ≤ w'.heap.size) (h3 : RefSys w' sb sv ws sc sk) :
    Calls Tryz.prog 130 #[.pointer (some ⟨sb, 0, none⟩), v] w' fun e w'' => e = .returned (infL l).val ∧ Below w'.heap.size w' w'' := by
  obtain ⟨ad, cap, hv, hc1, hc2⟩ := row_shape h.row
  subst hv
  have hok : ∀ i : Inf, (∃ r : Nat, r ≤ q ∧ i.Wt r) → i.Ok := fun i ⟨r, hr, hi⟩ => hi.ok (by omega) (by omega)
  refine ref_all sb l.length cap ad (infAt l) (fun j => xs.getD j #[]) w' hl hc1 (fun j hj => hok _ (hw.item j hj)) (fun j hj => hok _ (hw.upTo j hj)) (fun j hj => ?_) (fun j hj w2 hb2 => ?_)
  · have hxj : xs[j]? = some (xs[j]'(by rw [h.len]; exact hj)) := List.getElem?_eq_getElem _
    obtain ⟨x, hx⟩ : ∃ x, xs[j]? = some x := ⟨_, hxj⟩
    obtain ⟨k0, k1, k2, p1, n1, c1, p2, n2, c2, hxe⟩ := h.shape x (List.mem_of_getElem? hx)
    obtain ⟨g, cap', hve, _, hg, _, _, hcell⟩ := row_cells h.row (by omega)
    have hg2 : w'.heap[g]? = w.heap[g]? := h2 g (by rw [hve]; rfl)
    have had : ad = some ⟨g, 0, none⟩ := by simpa using (congrArg (fun u : Value => match u with | .slice a _ _ => a | _ => none) hve)
    have cc : ∀ (o : Nat) (u : Value), x[o]? = some u → w'.cell? ⟨g, j * 5 + o, none⟩ = some u := fun o u hu => by
      rw [World.cell?_of_block (w := w) (a := ⟨g, j * 5 + o, none⟩) hg2]
      exact hcell _ _ (flat5 xs h.shape j o x u hx hu)
    subst hxe
    refine ⟨g, _, _, _, _, _, had, by omega, by show xs.getD j #[] = _; rw [List.getD, hx]; rfl, ?_, cc 1 _ rfl, cc 2 _ rfl, cc 3 _ rfl, cc 4 _ rfl⟩
    simpa using cc 0 _ rfl
  · have hxj : xs[j]? = some (xs[j]'(by rw [h.len]; exact hj)) := List.getElem?_eq_getElem _
    have hlj : l[j]? = some l[j] := List.getElem?_eq_getElem hj
    have := h.ok j _ _ hxj hlj w2 (fun k hk => (hb2.block k (by have := (h.fp k hk).2.1; omega)).trans (h1 k hk)) (h3.chg (Chg.ofBelow (S := fun _ => False) hb2) id (fun _ _ => id))
    have e1 : xs.getD j #[] = xs[j]'(by rw [h.len]; exact hj) := by simp [hxj]
    have e2 : infAt l j = l[j].inf := by simp [infAt, hlj]
    rw [e1, e2]; exact this

theorem ItemsAt.all' {sb : Nat} {sv : Value} {ws : List RW} {sc sk : Int} {w : World} {base : Nat} {v : Value} {l : List AI} {xs : List (Array Value)} {F : Nat → Prop} {q : Nat}
    (h : ItemsAt sb sv ws sc sk w base v l xs F) (hw : WtL l q) (hq : q ≤ 10000000) (hl : l.length ≤ 1100000) (w' : World)
    (h1 : ∀ k, F k → w'.heap[k]? = w.heap[k]?) (h2 : ∀ k, v.ownBlock = some k → w'.heap[k]? = w.heap[k]?) (h3 : RefSys w' sb sv ws sc sk) :
    Calls Tryz.prog 130 #[.pointer (some ⟨sb, 0, none⟩), v] w' fun e w'' => e = .returned (infL l).val ∧ Below w'.heap.size w' w'' := by
  obtain ⟨ad, cap, hv, hc1, hc2⟩ := row_shape h.row
  subst hv
  have hok : ∀ i : Inf, (∃ r : Nat, r ≤ q ∧ i.Wt r) → i.Ok := fun i ⟨r, hr, hi⟩ => hi.ok (by omega) (by omega)
  refine ref_all sb l.length cap ad (infAt l) (fun j => xs.getD j #[]) w' hl hc1 (fun j hj => hok _ (hw.item j hj)) (fun j hj => hok _ (hw.upTo j hj)) (fun j hj => ?_) (fun j hj w2 hb2 => ?_)
  · have hxj : xs[j]? = some (xs[j]'(by rw [h.len]; exact hj)) := List.getElem?_eq_getElem _
    obtain ⟨x, hx⟩ : ∃ x, xs[j]? = some x := ⟨_, hxj⟩
    obtain ⟨k0, k1, k2, p1, n1, c1, p2, n2, c2, hxe⟩ := h.shape x (List.mem_of_getElem? hx)
    obtain ⟨g, cap', hve, _, hg, _, _, hcell⟩ := row_cells h.row (by omega)
    have hg2 : w'.heap[g]? = w.heap[g]? := h2 g (by rw [hve]; rfl)
    have had : ad = some ⟨g, 0, none⟩ := by simpa using (congrArg (fun u : Value => match u with | .slice a _ _ => a | _ => none) hve)
    have cc : ∀ (o : Nat) (u : Value), x[o]? = some u → w'.cell? ⟨g, j * 5 + o, none⟩ = some u := fun o u hu => by
      rw [World.cell?_of_block (w := w) (a := ⟨g, j * 5 + o, none⟩) hg2]
      exact hcell _ _ (flat5 xs h.shape j o x u hx hu)
    subst hxe
    refine ⟨g, _, _, _, _, _, had, same_lt hg2 hg, by show xs.getD j #[] = _; rw [List.getD, hx]; rfl, ?_, cc 1 _ rfl, cc 2 _ rfl, cc 3 _ rfl, cc 4 _ rfl⟩
    simpa using cc 0 _ rfl
  · have hxj : xs[j]? = some (xs[j]'(by rw [h.len]; exact hj)) := List.getElem?_eq_getElem _
    have hlj : l[j]? = some l[j] := List.getElem?_eq_getElem hj
    have := h.ok j _ _ hxj hlj w2 (fun k hk => (hb2.block k (same_lt (h1 k hk) (h.fp k hk).2.1)).trans (h1 k hk)) (h3.chg (Chg.ofBelow (S := fun _ => False) hb2) id (fun _ _ => id))
    have e1 : xs.getD j #[] = xs[j]'(by rw [h.len]; exact hj) := by simp [hxj]
    have e2 : infAt l j = l[j].inf := by simp [infAt, hlj]
    rw [e1, e2]; exact this

/-- What a reader stands in: the reader, the tokens, the system, apart from one another; the words are not too great. -/
structure Rd (w : World) (rb sb : Nat) (tv sv : Value) (toks : List Tk) (ws : List RW) (c k : Int) : Prop where
  tok : TokRow w tv toks
  sys : RefSys w sb sv ws c k
  tr : tv.ownBlock ≠ some rb
  sr : sv.ownBlock ≠ some rb
  ne : rb ≠ sb
  few : toks.length ≤ 1100000
  wfew : ws.length ≤ 1100000
  wok : ∀ x ∈ ws, x.inf.Wt 1 ∧ ∃ a n c, x.items = .slice a n c
  tsz : ∀ i, (tokS toks i).size ≤ 1000000000

theorem Rd.chg {w w' : World} {rb sb : Nat} {tv sv : Value} {toks : List Tk} {ws : List RW} {c k : Int} (h : Rd w rb sb tv sv toks ws c k) (hc : Chg (fun b => b = rb) w w') : Rd w' rb sb tv sv toks ws c k :=
  ⟨h.tok.chg hc (fun b hb e => h.tr (by rw [hb, e])), h.sys.chg hc (fun e => h.ne e.symm) (fun b hb e => h.sr (by rw [hb, e])), h.tr, h.sr, h.ne, h.few, h.wfew, h.wok, h.tsz⟩

/-- What 'items' leaves behind. -/
def ItemsPost (rb sb : Nat) (tv sv : Value) (ws : List RW) (c k : Int) (fin A : Int) (w : World) (r : PR) (e : Ending) (w' : World) : Prop :=
  match r with
  | .inl (l, t, I) => ∃ v xs F, e = .returned (.tuple #[v, .string t]) ∧ Blk w' rb (rdr sb tv I fin 0 A) 181 ∧ Chg (fun b => b = rb) w w' ∧ ItemsAt sb sv ws c k w' w.heap.size v l xs F
  | .inr (E, P) => ∃ (ad : Option Addr) (n cap I : Nat), e = .returned (.tuple #[.slice ad n cap, .string ⟨#[]⟩]) ∧ E ≠ 0 ∧ Blk w' rb (rdr sb tv I fin E P) 181 ∧ Chg (fun b => b = rb) w w'

/-- 'items' does what it must, where so many tokens are left. -/
def ItemsSaid (n : Nat) : Prop :=
  ∀ (rb sb : Nat) (tv sv : Value) (toks : List Tk) (ws : List RW) (c k : Int) (I f : Nat) (fin A loops : Int) (ends : List ByteArray) (eb ecap : Nat) (w : World),
    Rd w rb sb tv sv toks ws c k → Blk w rb (rdr sb tv I fin 0 A) 181 → toks.length + 1 - I ≤ n → toks.length + 1 - I ≤ f → I ≤ toks.length →
    0 ≤ loops → loops + (toks.length + 1 - I : Nat) ≤ 10000000 → ends.length ≤ 10 → ends.length ≤ ecap → eb ≠ rb → (∀ j (h : j < ends.length), w.cell? ⟨eb, j, none⟩ = some (.string ends[j])) →
    Calls Tryz.prog 129 #[.pointer (some ⟨rb, 0, none⟩), .slice (some ⟨eb, 0, none⟩) ends.length ecap, .int .i64 loops] w (ItemsPost rb sb tv sv ws c k fin A w (pItems ws toks fin f ends loops [] I))

end Go.Proofs.YtcphhbofjkenaaaGreatDoor

/- Reading items: how far, and how great. Of no run. -/
namespace Go.Proofs.YtcphhbofjkenaaaGreatDoor
open Go Go.RowKit
set_option linter.unusedVariables false
set_option linter.unusedSimpArgs false

theorem own_lt {w : World} {base : Nat} {e : TypeId} {size : Nat} {v : Value} {n : Nat} {xs : List Value} (h : w.ownsRow base e size v n xs) {k : Nat} (hk : v.ownBlock = some k) : k < w.heap.size := by
  rcases h.2 with ⟨rfl, _⟩ | ⟨g, cap, cur, rfl, _, hg, _⟩
  · cases hk
  · simp [Value.ownBlock] at hk; subst hk; exact (Array.getElem?_eq_some_iff.1 hg).1

theorem Chg.trans_ge {S : Nat → Prop} {w w1 w2 : World} (h : Chg S w w1) (h2 : Chg (fun k => w.heap.size ≤ k) w1 w2) : Chg S w w2 :=
  ⟨h2.os.trans h.os, h2.tape.trans h.tape, h2.output.trans h.output, Nat.le_trans h.size h2.size, fun k hk hn => (h2.block k (Nat.lt_of_lt_of_le hk h.size) (by omega)).trans (h.block k hk hn)⟩

theorem plain_wt (t p : Int) (h0 : 0 ≤ t) (h1 : t ≤ 100) (h2 : 0 ≤ p) (h3 : p ≤ 100) : (Inf.plain t p).Wt 1 := by constructor <;> simp only [Inf.plain] <;> omega
theorem wordI_wt (ws : List RW) (t : ByteArray) (hw : ∀ x ∈ ws, x.inf.Wt 1 ∧ ∃ a n c, x.items = .slice a n c) : (wordI ws t).Wt 1 := by
  unfold wordI
  split
  · split
    · rename_i x hx
      unfold ownInf
      split
      · exact plain_wt 0 1 (by omega) (by omega) (by omega) (by omega)
      · exact (hw x (List.mem_of_getElem? hx)).1.more
    · exact Inf.Wt.zero.mono (by omega)
  · obtain ⟨a, b, c, d⟩ := thereS_bd t
    exact plain_wt _ _ a b c d

theorem infL_wt {l : List AI} {q : Nat} (h : WtL l q) : (infL l).Wt q := by
  obtain ⟨r, hr, h2⟩ := h.upTo l.length (Nat.le_refl _)
  exact h2.mono (by omega)

theorem tok_end (toks : List Tk) (I : Nat) (ends : List ByteArray) (hE : inL ⟨#[]⟩ ends = false) (h : inL (tokS toks I) ends = true) : I < toks.length := by
  rcases Nat.lt_or_ge I toks.length with h1 | h1
  · exact h1
  · have : tokS toks I = ⟨#[]⟩ := by simp [tokS, List.getD, List.getElem?_eq_none h1]
    rw [this, hE] at h; cases h
theorem ends1 : inL ⟨#[]⟩ [tElse, tThen] = false := by decide +kernel
theorem ends2 : inL ⟨#[]⟩ [tThen] = false := by decide +kernel
theorem ends3 : inL ⟨#[]⟩ [tLoop] = false := by decide +kernel
theorem ends4 : inL ⟨#[]⟩ [tSemi] = false := by decide +kernel

/-- Where items are read to their end: how far, how many, and how great what is known of them may be. -/
theorem pItems_ok (ws : List RW) (toks : List Tk) (fin : Int) (hw : ∀ x ∈ ws, x.inf.Wt 1 ∧ ∃ a n c, x.items = .slice a n c) : ∀ (f : Nat) (ends : List ByteArray) (loops : Int) (acc : List AI) (I : Nat) (l : List AI) (t : ByteArray) (I' : Nat),
    pItems ws toks fin f ends loops acc I = .inl (l, t, I') → inL ⟨#[]⟩ ends = false → ∀ {q : Nat}, WtL acc q → I < I' ∧ I' ≤ toks.length ∧ l.length ≤ acc.length + (I' - I) ∧ WtL l (q + (I' - I)) := by
  intro f
  induction f with
  | zero => intro ends loops acc I l t I' h; simp [pItems] at h
  | succ f ih =>
    intro ends loops acc I l t I' h hE q hq
    have step : ∀ (x : AI) (J : Nat), I < J → x.inf.Wt ((J - I : Nat) : Int) → pItems ws toks fin f ends loops (acc ++ [x]) J = .inl (l, t, I') → I < I' ∧ I' ≤ toks.length ∧ l.length ≤ acc.length + (I' - I) ∧ WtL l (q + (I' - I)) := by
      intro x J hJ hx h
      obtain ⟨a, b, c, d⟩ := ih ends loops (acc ++ [x]) J l t I' h hE (hq.snoc hx)
      simp at c
      exact ⟨by omega, b, by omega, d.mono (by omega)⟩
    unfold pItems at h
    split at h
    · rename_i hin
      have := tok_end toks I ends hE hin
      simp at h; obtain ⟨rfl, rfl, rfl⟩ := h; exact ⟨by omega, by omega, by omega, hq.mono (by omega)⟩
    split at h
    · simp at h
    split at h
    · exact step _ _ (by omega) (by have := plain_wt 0 1 (by omega) (by omega) (by omega) (by omega); exact this.mono (by omega)) h
    split at h
    · split at h
      · simp at h
      · rename_i la ta I1 hA
        obtain ⟨a1, a2, _, a3⟩ := ih _ _ _ _ _ _ _ hA ends1 (WtL.nil 0)
        have wa := infL_wt a3
        split at h
        · split at h
          · simp at h
          · rename_i lb tb I2 hB
            obtain ⟨b1, b2, _, b3⟩ := ih _ _ _ _ _ _ _ hB ends2 (WtL.nil 0)
            have wb := infL_wt b3
            split at h
            · refine step _ _ (by omega) ?_ h
              have := (plain_wt 1 0 (by omega) (by omega) (by omega) (by omega)).then (wa.more.ways wb (by omega) (by omega)) (by omega) (by omega)
              exact this.mono (by omega)
            · simp at h
        · split at h
          · refine step _ _ (by omega) ?_ h
            have := (plain_wt 1 0 (by omega) (by omega) (by omega) (by omega)).then (wa.ways Inf.Wt.zero (by omega) (by omega)) (by omega) (by omega)
            exact this.mono (by omega)
          · simp at h
    split at h
    · split at h
      · simp at h
      · rename_i a b hab
        split at h
        · simp at h
        · split at h
          · simp at h
          · rename_i la ta I1 hA
            obtain ⟨a1, a2, _, a3⟩ := ih _ _ _ _ _ _ _ hA ends3 (WtL.nil 0)
            have wa := infL_wt a3
            split at h
            · refine step _ _ (by omega) ?_ h
              have := (plain_wt 2 0 (by omega) (by omega) (by omega) (by omega)).then (wa.times (n := max 0 (a - b)) (by omega) (by omega)) (by omega) (by omega)
              exact this.mono (by omega)
            · simp at h
    split at h
    · exact step _ _ (by omega) ((wordI_wt ws _ hw).mono (by omega)) h
    · simp at h

end Go.Proofs.YtcphhbofjkenaaaGreatDoor

/- Items in memory, and one more behind them. -/
namespace Go.Proofs.YtcphhbofjkenaaaGreatDoor
open Go Go.RowKit
set_option linter.unusedVariables false
set_option linter.unusedSimpArgs false

theorem ItemsAt.nil (sb : Nat) (sv : Value) (ws : List RW) (sc sk : Int) (w : World) (base : Nat) : ItemsAt sb sv ws sc sk w base (.slice none 0 0) [] [] (fun _ => False) :=
  ⟨rfl, World.ownsRow_nil _ _ _ _, fun x h => by simp at h, fun i x a h => by simp at h, fun k h => h.elim, fun i x a h => by simp at h⟩

/-- Items stand in a later world in which their blocks have not turned. -/
theorem ItemsAt.move {sb : Nat} {sv : Value} {ws : List RW} {sc sk : Int} {w w' : World} {base : Nat} {v : Value} {l : List AI} {xs : List (Array Value)} {F : Nat → Prop}
    (h : ItemsAt sb sv ws sc sk w base v l xs F) {S : Nat → Prop} (hc : Chg S w w') (hs : ∀ k, base ≤ k → ¬ S k) : ItemsAt sb sv ws sc sk w' base v l xs F :=
  ⟨h.len, ownsRow_chg h.row hc (fun k hk => hs k (by
      rcases h.row.2 with ⟨rfl, _⟩ | ⟨g, cap, cur, rfl, hg, _⟩
      · cases hk
      · simp [Value.ownBlock] at hk; omega)), h.shape, h.kind, fun k hk => ⟨(h.fp k hk).1, Nat.lt_of_lt_of_le (h.fp k hk).2.1 hc.size, (h.fp k hk).2.2⟩,
    fun i x a h1 h2 => (h.ok i x a h1 h2).mono (fun _ => id) (fun k hk => hc.block k (h.fp k hk).2.1 (hs k (h.fp k hk).1))⟩

/-- One item more, behind an append. -/
theorem ItemsAt.snoc {sb : Nat} {sv : Value} {ws : List RW} {sc sk : Int} {w w2 : World} {base : Nat} {v v' : Value} {l : List AI} {xs : List (Array Value)} {F G : Nat → Prop} {x : Array Value} {a : AI}
    (h : ItemsAt sb sv ws sc sk w base v l xs F) (hx : five x) (hk : kindOk x a) (hG : ∀ k, G k → base ≤ k ∧ k < w.heap.size ∧ v.ownBlock ≠ some k) (hok : ItemOk sb sv ws sc sk G w x a.inf)
    (hr : w2.ownsRow base 249 5 v' (l.length + 1) (xs.flatMap Array.toList ++ x.toList)) (hg : w.grownBy w2 v.ownBlock) (hat : v'.ownBlock = v.ownBlock ∨ v'.ownBlock = some w.heap.size) :
    ItemsAt sb sv ws sc sk w2 base v' (l ++ [a]) (xs ++ [x]) (fun k => F k ∨ G k) := by
  have hne : ∀ k, k < w.heap.size → v.ownBlock ≠ some k → v'.ownBlock ≠ some k := by
    intro k h1 h2 e
    rcases hat with h3 | h3
    · rw [h3] at e; exact h2 e
    · rw [h3] at e; simp at e; omega
  have same : ∀ k, k < w.heap.size → v.ownBlock ≠ some k → w2.heap[k]? = w.heap[k]? := fun k h1 h2 => hg.block k h1 (Ne.symm h2)
  refine ⟨by simp [h.len], by simpa using hr, ?_, ?_, ?_, ?_⟩
  · intro y hy
    rcases List.mem_append.1 hy with hy | hy
    · exact h.shape y hy
    · simp at hy; subst hy; exact hx
  · intro i y b h1 h2
    by_cases hi : i < l.length
    · rw [List.getElem?_append_left (by rw [h.len]; exact hi)] at h1
      rw [List.getElem?_append_left hi] at h2
      exact h.kind i y b h1 h2
    · rw [List.getElem?_append_right (by rw [h.len]; omega), h.len] at h1
      rw [List.getElem?_append_right (by omega)] at h2
      by_cases e : i - l.length = 0
      · rw [e] at h1 h2; simp at h1 h2; subst h1; subst h2; exact hk
      · rw [List.getElem?_eq_none (by simp; omega)] at h1; cases h1
  · rintro k (hF | hF)
    · have := h.fp k hF; exact ⟨this.1, Nat.lt_of_lt_of_le this.2.1 hg.size, hne k this.2.1 this.2.2⟩
    · have := hG k hF; exact ⟨this.1, Nat.lt_of_lt_of_le this.2.1 hg.size, hne k this.2.1 this.2.2⟩
  · intro i y b h1 h2
    by_cases hi : i < l.length
    · rw [List.getElem?_append_left (by rw [h.len]; exact hi)] at h1
      rw [List.getElem?_append_left hi] at h2
      exact (h.ok i y b h1 h2).mono (fun _ => Or.inl) (fun k hk => same k (h.fp k hk).2.1 (h.fp k hk).2.2)
    · rw [List.getElem?_append_right (by rw [h.len]; omega), h.len] at h1
      rw [List.getElem?_append_right (by omega)] at h2
      by_cases e : i - l.length = 0
      · rw [e] at h1 h2; simp at h1 h2; subst h1; subst h2
        exact hok.mono (fun _ => Or.inr) (fun k hk => same k (hG k hk).2.1 (hG k hk).2.2)
      · rw [List.getElem?_eq_none (by simp; omega)] at h1; cases h1

end Go.Proofs.YtcphhbofjkenaaaGreatDoor
