import Derived.Lib.MinMax
import Derived.WalkKit
import Derived.WalkLawsBesides
import Derived.WalkSpells
import Derived.Test.YtcphhbofjkenaaaGreatDoorK00
import Derived.Test.YtcphhbofjkenaaaGreatDoorK04

namespace Go.Proofs.YtcphhbofjkenaaaGreatDoor
open Go.RowKit
set_option linter.unusedVariables false
set_option linter.unusedSimpArgs false

structure Inf.Ok (i : Inf) : Prop where
  n0 : -100000000000000000 ≤ i.need
  n1 : i.need ≤ 100000000000000000
  t0 : -100000000000000000 ≤ i.net
  t1 : i.net ≤ 100000000000000000
  h0 : -100000000000000000 ≤ i.high
  h1 : i.high ≤ 100000000000000000
  s0 : 0 ≤ i.steps
  s1 : i.steps ≤ 1000000001

def upTo (f : Nat → Inf) : Nat → Inf
  | 0 => Inf.zero
  | k + 1 => (upTo f k).then (f k)

theorem blk_set5 {w : World} {b : Nat} {t : TypeId} {a0 a1 a2 a3 a4 : Value} (h : Blk w b #[a0, a1, a2, a3, a4] t) (b0 b1 b2 b3 b4 : Value) :
    Blk (((((w.setCell ⟨b, 0, none⟩ b0).setCell ⟨b, 1, none⟩ b1).setCell ⟨b, 2, none⟩ b2).setCell ⟨b, 3, none⟩ b3).setCell ⟨b, 4, none⟩ b4) b #[b0, b1, b2, b3, b4] t := by
  have := ((((h.set (o := 0) b0).set (o := 1) b1).set (o := 2) b2).set (o := 3) b3).set (o := 4) b4
  simpa using this

theorem blk_new (w : World) (cs : Array Value) (t : TypeId) : Blk (w.alloc (.cells cs t (0, 0))) w.heap.size cs t := by
  show (w.heap.push _)[w.heap.size]? = _
  simp
def zero5 : Array Value := #[.int .i64 0, .int .i64 0, .int .i64 0, .int .i64 0, .bool false]
theorem Blk.zero {w : World} {b : Nat} {t : TypeId} (h : Blk w b zero5 t) : w.cell? ⟨b, 0, none⟩ = some (.int .i64 0) ∧ w.cell? ⟨b, 1, none⟩ = some (.int .i64 0) ∧ w.cell? ⟨b, 2, none⟩ = some (.int .i64 0) ∧ w.cell? ⟨b, 3, none⟩ = some (.int .i64 0) ∧ w.cell? ⟨b, 4, none⟩ = some (.bool false) :=
  ⟨h.cell 0 _ rfl, h.cell 1 _ rfl, h.cell 2 _ rfl, h.cell 3 _ rfl, h.cell 4 _ rfl⟩
theorem Blk.free {w : World} {b : Nat} {t : TypeId} {cs : Array Value} (h : Blk w b cs t) : w.frozen? ⟨b, 0, none⟩ = false ∧ w.frozen? ⟨b, 1, none⟩ = false ∧ w.frozen? ⟨b, 2, none⟩ = false ∧ w.frozen? ⟨b, 3, none⟩ = false ∧ w.frozen? ⟨b, 4, none⟩ = false :=
  ⟨h.frozen 0, h.frozen 1, h.frozen 2, h.frozen 3, h.frozen 4⟩

end Go.Proofs.YtcphhbofjkenaaaGreatDoor

namespace Go.Proofs.YtcphhbofjkenaaaGreatDoor
open Go.RowKit
set_option linter.unusedVariables false
set_option linter.unusedSimpArgs false

def Inf.tm (i : Inf) : Value := .agg #[.int .i64 i.need, .int .i64 i.net, .int .i64 i.high, .int .i64 i.steps, .bool (!i.str)]

theorem three_allocs (w : World) (a b c : Obj) : w.heap.size + 1 + 1 + 1 = (((w.alloc a).alloc b).alloc c).heap.size := by simp

set_option maxHeartbeats 1000000 in
theorem eff_of (t p : Int) (w : World) (h0 : 0 ≤ t) (h1 : t ≤ 100) (h2 : 0 ≤ p) (h3 : p ≤ 100) :
    Calls Tryz.prog 202 #[.int .i64 t, .int .i64 p] w fun e w' => e = .returned (.agg #[.int .i64 t, .int .i64 (p - t), .int .i64 (max 0 (p - t))]) ∧ Below w.heap.size w w' := by
  go_enter Tryz.func202, Tryz.ntmps202
  go_wp2
  refine bodyPost_ret (v := .agg #[.int .i64 t, .int .i64 (p - t), .int .i64 (max 0 (p - t))]) (by simp [results, Tryz.results202, go_sem]) rfl ⟨rfl, ?_⟩
  exact (Below.refl _ _).alloc (Nat.le_refl _) _

set_option maxHeartbeats 1000000 in
theorem eff_step (t p : Int) (w : World) (h0 : 0 ≤ t) (h1 : t ≤ 100) (h2 : 0 ≤ p) (h3 : p ≤ 100) :
    Calls Tryz.prog 177 #[.int .i64 t, .int .i64 p] w fun e w' => e = .returned (Inf.plain t p).tm ∧ Below w.heap.size w w' := by
  go_enter Tryz.func177, Tryz.ntmps177
  go_wp2_with fail
  refine (eff_of t p _ h0 h1 h2 h3).mono ?_
  rintro e w1 ⟨rfl, hb⟩
  have hb1 : Below (w.heap.size + 1) (w.alloc (.cells #[.int .i64 0, .int .i64 0, .int .i64 0, .int .i64 0, .bool false] 151 (0, 0))) w1 := by simpa using hb
  have hz := fun o => hb1.cell (p := ⟨w.heap.size, o, none⟩) (by simp)
  have hf := fun o => hb1.frozen (p := ⟨w.heap.size, o, none⟩) (by simp)
  have c0 := hz 0; have c1 := hz 1; have c2 := hz 2; have c3 := hz 3; have c4 := hz 4
  have f0 := hf 0; have f1 := hf 1; have f2 := hf 2; have f3 := hf 3; have f4 := hf 4
  clear hz hf hb
  simp [go_sem] at c0 c1 c2 c3 c4 f0 f1 f2 f3 f4
  go_wp2
  refine bodyPost_ret (v := (Inf.plain t p).tm) (by simp [results, Tryz.results177, go_sem, c0, c1, c2, c3, c4]; rfl) rfl ⟨rfl, ?_⟩
  exact (((((below1 hb1).setCell (by simp) _).setCell (by simp) _).setCell (by simp) _).setCell (by simp) _).setCell (by simp) _

theorem eff_level (n t h : Int) (w : World) :
    Calls Tryz.prog 188 #[.agg #[.int .i64 n, .int .i64 t, .int .i64 h]] w fun e w' => e = .returned (.bool (t == 0)) ∧ Below w.heap.size w w' := by
  go_enter Tryz.func188, Tryz.ntmps188
  go_wp2
  go_ret
  exact ⟨rfl, (Below.refl _ _).alloc (Nat.le_refl _) _⟩

theorem eff_agrees (n t h n2 t2 h2 : Int) (w : World) :
    Calls Tryz.prog 186 #[.agg #[.int .i64 n, .int .i64 t, .int .i64 h], .agg #[.int .i64 n2, .int .i64 t2, .int .i64 h2]] w fun e w' => e = .returned (.bool (t == t2)) ∧ Below w.heap.size w w' := by
  go_enter Tryz.func186, Tryz.ntmps186
  go_wp2
  go_ret
  exact ⟨rfl, ((Below.refl _ _).alloc (Nat.le_refl _) _).alloc (by simp) _⟩

theorem eff_capped (n : Int) (w : World) :
    Calls Tryz.prog 205 #[.int .i64 n] w fun e w' => e = .returned (.int .i64 (min n 1000000001)) ∧ w' = w := by
  go_enter Tryz.func205, Tryz.ntmps205
  go_wp2
  go_ret
  exact ⟨rfl, rfl⟩

theorem eff_long (n t h s : Int) (b : Bool) (w : World) :
    Calls Tryz.prog 183 #[.agg #[.int .i64 n, .int .i64 t, .int .i64 h, .int .i64 s, .bool b]] w fun e w' => e = .returned (.bool (decide (1000000000 < s))) ∧ Below w.heap.size w w' := by
  go_enter Tryz.func183, Tryz.ntmps183
  go_wp2
  go_ret
  exact ⟨rfl, (Below.refl _ _).alloc (Nat.le_refl _) _⟩

set_option maxHeartbeats 1000000 in
theorem eff_ethen (n1 t1 h1 n2 t2 h2 : Int) (w : World)
    (x1 : -1000000000000000000 ≤ t1) (x2 : t1 ≤ 1000000000000000000) (x3 : -1000000000000000000 ≤ n2) (x4 : n2 ≤ 1000000000000000000)
    (x5 : -1000000000000000000 ≤ t2) (x6 : t2 ≤ 1000000000000000000) (x7 : -1000000000000000000 ≤ h2) (x8 : h2 ≤ 1000000000000000000) :
    Calls Tryz.prog 212 #[.agg #[.int .i64 n1, .int .i64 t1, .int .i64 h1], .agg #[.int .i64 n2, .int .i64 t2, .int .i64 h2]] w
      fun e w' => e = .returned (.agg #[.int .i64 (max n1 (n2 - t1)), .int .i64 (t1 + t2), .int .i64 (max h1 (t1 + h2))]) ∧ Below w.heap.size w w' := by
  go_enter Tryz.func212, Tryz.ntmps212
  go_wp2
  refine bodyPost_ret (v := .agg #[.int .i64 (max n1 (n2 - t1)), .int .i64 (t1 + t2), .int .i64 (max h1 (t1 + h2))]) (by simp [results, Tryz.results212, go_sem]) rfl ⟨rfl, ?_⟩
  exact (((Below.refl _ _).alloc (Nat.le_refl _) _).alloc (by simp) _).alloc (by simp; omega) _

set_option maxHeartbeats 1000000 in
theorem eff_eor (n1 t1 h1 n2 t2 h2 : Int) (w : World) :
    Calls Tryz.prog 204 #[.agg #[.int .i64 n1, .int .i64 t1, .int .i64 h1], .agg #[.int .i64 n2, .int .i64 t2, .int .i64 h2]] w
      fun e w' => e = .returned (.agg #[.int .i64 (max n1 n2), .int .i64 t1, .int .i64 (max h1 h2)]) ∧ Below w.heap.size w w' := by
  go_enter Tryz.func204, Tryz.ntmps204
  go_wp2
  refine bodyPost_ret (v := .agg #[.int .i64 (max n1 n2), .int .i64 t1, .int .i64 (max h1 h2)]) (by simp [results, Tryz.results204, go_sem]) rfl ⟨rfl, ?_⟩
  exact (((Below.refl _ _).alloc (Nat.le_refl _) _).alloc (by simp) _).alloc (by simp; omega) _

set_option maxHeartbeats 2000000 in
theorem eff_then0 (n1 t1 h1 s1 n2 t2 h2 s2 : Int) (b1 b2 : Bool) (w : World)
    (x1 : -1000000000000000000 ≤ t1) (x2 : t1 ≤ 1000000000000000000) (x3 : -1000000000000000000 ≤ n2) (x4 : n2 ≤ 1000000000000000000)
    (x5 : -1000000000000000000 ≤ t2) (x6 : t2 ≤ 1000000000000000000) (x7 : -1000000000000000000 ≤ h2) (x8 : h2 ≤ 1000000000000000000)
    (x9 : 0 ≤ s1) (y1 : s1 ≤ 1000000000000000000) (y2 : 0 ≤ s2) (y3 : s2 ≤ 1000000000000000000) :
    Calls Tryz.prog 203 #[.agg #[.int .i64 n1, .int .i64 t1, .int .i64 h1, .int .i64 s1, .bool b1], .agg #[.int .i64 n2, .int .i64 t2, .int .i64 h2, .int .i64 s2, .bool b2]] w
      fun e w' => e = .returned (.agg #[.int .i64 (max n1 (n2 - t1)), .int .i64 (t1 + t2), .int .i64 (max h1 (t1 + h2)), .int .i64 (min (s1 + s2) 1000000001), .bool (b1 || b2)]) ∧ Below w.heap.size w w' := by
  cases b1
  all_goals
    go_enter Tryz.func203, Tryz.ntmps203
    go_wp2_with fail
    have hc := fun (B : Nat) (w0 : World) (u : Und B w0) (b o : Nat) (h : b < B) => u.cell b o h
    have hne := Und.ne
    refine wp_region_und_tail (w.heap.size + 1 + 1 + 1) 18 (by kernel_rfl) (by kernel_rfl) ?_
    simp only [List.take_succ_cons, List.take_zero, List.drop_succ_cons, List.drop_zero]
    repeat (go_big_quiet_step ((first | (go_at_call 205; exact Und.calls_same _ (eff_capped _ _)) | (go_at_call 212; exact Und.calls (Nat.le_of_eq (three_allocs _ _ _ _)) _ (eff_ethen n1 t1 h1 n2 t2 h2 _ x1 x2 x3 x4 x5 x6 x7 x8)))))
    refine wpQuiet_nil ?_
    intro u
    obtain ⟨w1, hb⟩ := u
    have hz := fun o => hb.cell (p := ⟨w.heap.size + 1 + 1, o, none⟩) (by simp)
    have hf := fun o => hb.frozen (p := ⟨w.heap.size + 1 + 1, o, none⟩) (by simp)
    have c0 := hz 0; have c1 := hz 1; have c2 := hz 2; have c3 := hz 3; have c4 := hz 4
    have f0 := hf 0; have f1 := hf 1; have f2 := hf 2; have f3 := hf 3; have f4 := hf 4
    clear hz hf hc hne
    simp [go_sem] at c0 c1 c2 c3 c4 f0 f1 f2 f3 f4
    go_wp2
    refine bodyPost_ret (v := .agg #[.int .i64 (max n1 (n2 - t1)), .int .i64 (t1 + t2), .int .i64 (max h1 (t1 + h2)), .int .i64 (min (s1 + s2) 1000000001), _]) (by simp [results, Tryz.results203, go_sem, c0, c1, c2, c3, c4]; rfl) rfl ⟨by simp, ?_⟩
    exact ((((((below3 hb).setCell (by simp; omega) _).setCell (by simp; omega) _).setCell (by simp; omega) _).setCell (by simp; omega) _).setCell (by simp; omega) _)

theorem eff_then (a b : Inf) (ha : a.Ok) (hb : b.Ok) (w : World) :
    Calls Tryz.prog 203 #[a.tm, b.tm] w fun e w' => e = .returned (a.then b).tm ∧ Below w.heap.size w w' := by
  obtain ⟨a1, a2, a3, a4, a5, a6, a7, a8⟩ := ha
  obtain ⟨b1, b2, b3, b4, b5, b6, b7, b8⟩ := hb
  refine (eff_then0 a.need a.net a.high a.steps b.need b.net b.high b.steps (!a.str) (!b.str) w (by omega) (by omega) (by omega) (by omega) (by omega) (by omega) (by omega) (by omega) (by omega) (by omega) (by omega) (by omega)).mono ?_
  rintro e w1 ⟨rfl, h⟩
  exact ⟨by simp [Inf.then, Inf.tm], h⟩

set_option maxHeartbeats 2000000 in
theorem eff_or0 (n1 t1 h1 s1 n2 t2 h2 s2 : Int) (b1 b2 : Bool) (w : World) :
    Calls Tryz.prog 187 #[.agg #[.int .i64 n1, .int .i64 t1, .int .i64 h1, .int .i64 s1, .bool b1], .agg #[.int .i64 n2, .int .i64 t2, .int .i64 h2, .int .i64 s2, .bool b2]] w
      fun e w' => e = .returned (.agg #[.int .i64 (max n1 n2), .int .i64 t1, .int .i64 (max h1 h2), .int .i64 (max s1 s2), .bool (b1 || b2)]) ∧ Below w.heap.size w w' := by
  cases b1
  all_goals
    go_enter Tryz.func187, Tryz.ntmps187
    go_wp2_with fail
    have hc := fun (B : Nat) (w0 : World) (u : Und B w0) (b o : Nat) (h : b < B) => u.cell b o h
    have hne := Und.ne
    refine wp_region_und_tail (w.heap.size + 1 + 1 + 1) 17 (by kernel_rfl) (by kernel_rfl) ?_
    simp only [List.take_succ_cons, List.take_zero, List.drop_succ_cons, List.drop_zero]
    repeat (go_big_quiet_step ((go_at_call 204; exact Und.calls (Nat.le_of_eq (three_allocs _ _ _ _)) _ (eff_eor n1 t1 h1 n2 t2 h2 _))))
    refine wpQuiet_nil ?_
    intro u
    obtain ⟨w1, hb⟩ := u
    have hz := fun o => hb.cell (p := ⟨w.heap.size + 1 + 1, o, none⟩) (by simp)
    have hf := fun o => hb.frozen (p := ⟨w.heap.size + 1 + 1, o, none⟩) (by simp)
    have c0 := hz 0; have c1 := hz 1; have c2 := hz 2; have c3 := hz 3; have c4 := hz 4
    have f0 := hf 0; have f1 := hf 1; have f2 := hf 2; have f3 := hf 3; have f4 := hf 4
    clear hz hf hc hne
    simp [go_sem] at c0 c1 c2 c3 c4 f0 f1 f2 f3 f4
    go_wp2
    refine bodyPost_ret (v := .agg #[.int .i64 (max n1 n2), .int .i64 t1, .int .i64 (max h1 h2), .int .i64 (max s1 s2), _]) (by simp [results, Tryz.results187, go_sem, c0, c1, c2, c3, c4]; rfl) rfl ⟨by simp, ?_⟩
    exact ((((((below3 hb).setCell (by simp; omega) _).setCell (by simp; omega) _).setCell (by simp; omega) _).setCell (by simp; omega) _).setCell (by simp; omega) _)

set_option maxHeartbeats 2000000 in
theorem eff_times0 (n1 t1 h1 s1 k : Int) (b1 : Bool) (w : World) (hk : k ≠ 0) (k0 : 0 ≤ k) (k1 : k ≤ 1000) (s0 : 0 ≤ s1) (s2 : s1 ≤ 1000000001) :
    Calls Tryz.prog 189 #[.agg #[.int .i64 n1, .int .i64 t1, .int .i64 h1, .int .i64 s1, .bool b1], .int .i64 k] w
      fun e w' => e = .returned (.agg #[.int .i64 n1, .int .i64 t1, .int .i64 h1, .int .i64 (min (s1 * k) 1000000001), .bool b1]) ∧ Below w.heap.size w w' := by
  have hp : 0 ≤ s1 * k := Int.mul_nonneg s0 k0
  have hq : s1 * k ≤ 1000000001 * 1000 := Int.mul_le_mul s2 k1 k0 (by omega)
  go_enter Tryz.func189, Tryz.ntmps189
  go_wp2
  refine bodyPost_ret (v := .agg #[.int .i64 n1, .int .i64 t1, .int .i64 h1, .int .i64 (min (s1 * k) 1000000001), .bool b1]) (by simp [results, Tryz.results189, go_sem]) rfl ⟨rfl, ?_⟩
  exact ((Below.refl _ _).alloc (Nat.le_refl _) _).alloc (by simp) _

set_option maxHeartbeats 2000000 in
theorem eff_times1 (n1 t1 h1 s1 : Int) (b1 : Bool) (w : World) :
    Calls Tryz.prog 189 #[.agg #[.int .i64 n1, .int .i64 t1, .int .i64 h1, .int .i64 s1, .bool b1], .int .i64 0] w
      fun e w' => e = .returned (.agg #[.int .i64 0, .int .i64 0, .int .i64 0, .int .i64 0, .bool b1]) ∧ Below w.heap.size w w' := by
  go_enter Tryz.func189, Tryz.ntmps189
  go_wp2
  refine bodyPost_ret (v := .agg #[.int .i64 0, .int .i64 0, .int .i64 0, .int .i64 0, .bool b1]) (by simp [results, Tryz.results189, go_sem]) rfl ⟨rfl, ?_⟩
  exact ((Below.refl _ _).alloc (Nat.le_refl _) _).alloc (by simp) _

end Go.Proofs.YtcphhbofjkenaaaGreatDoor
