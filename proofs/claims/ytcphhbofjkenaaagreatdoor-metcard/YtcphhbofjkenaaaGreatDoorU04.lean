import Derived.Deep.DeepCutAuto
import Derived.Deep.MidRow
import Derived.Test.YtcphhbofjkenaaaGreatDoorU02
import Derived.Test.YtcphhbofjkenaaaGreatDoorU03
namespace Go.Proofs.YtcphhbofjkenaaaGreatDoor
set_option maxHeartbeats 16000000
open Go.RowKit
set_option linter.unusedVariables false
set_option linter.unusedSimpArgs false
structure Inf.Ok (i : Inf) : Prop where
 n0 : -100000000000000000 ≤ i.need
 n1 : i.need ≤ 100000000000000000
 t0 : -100000000000000000 ≤ i.net
 t1 : i.net ≤ 100000000000000000
 h0 : -100000000000000000 ≤ i.high
 h1 : i.high ≤ 100000000000000000
 s0 : 0 ≤ i.steps
 s1 : i.steps ≤ 1000000001
def upTo (f : Nat → Inf) : Nat → Inf
 | 0 => Inf.zero
 | k + 1 => (upTo f k).then (f k)
theorem blk_set5 {w : World} {b : Nat} {t : TypeId} {a0 a1 a2 a3 a4 : Value} (h : Blk w b #[a0, a1, a2, a3, a4] t) (b0 b1 b2 b3 b4 : Value) :
  Blk (((((w.setCell ⟨b, 0, none⟩ b0).setCell ⟨b, 1, none⟩ b1).setCell ⟨b, 2, none⟩ b2).setCell ⟨b, 3, none⟩ b3).setCell ⟨b, 4, none⟩ b4) b #[b0, b1, b2, b3, b4] t := by
 have := ((((h.set (o := 0) b0).set (o := 1) b1).set (o := 2) b2).set (o := 3) b3).set (o := 4) b4
 simpa using this
theorem blk_new (w : World) (cs : Array Value) (t : TypeId) : Blk (w.alloc (.cells cs t (0, 0))) w.heap.size cs t := by
 show (w.heap.push _)[w.heap.size]? = _
 simp
def zero5 : Array Value := #[.int .i64 0, .int .i64 0, .int .i64 0, .int .i64 0, .bool false]
theorem Blk.zero {w : World} {b : Nat} {t : TypeId} (h : Blk w b zero5 t) : w.cell? ⟨b, 0, none⟩ = some (.int .i64 0) ∧ w.cell? ⟨b, 1, none⟩ = some (.int .i64 0) ∧ w.cell? ⟨b, 2, none⟩ = some (.int .i64 0) ∧ w.cell? ⟨b, 3, none⟩ = some (.int .i64 0) ∧ w.cell? ⟨b, 4, none⟩ = some (.bool false) :=
 ⟨h.cell 0 _ rfl, h.cell 1 _ rfl, h.cell 2 _ rfl, h.cell 3 _ rfl, h.cell 4 _ rfl⟩
theorem Blk.free {w : World} {b : Nat} {t : TypeId} {cs : Array Value} (h : Blk w b cs t) : w.frozen? ⟨b, 0, none⟩ = false ∧ w.frozen? ⟨b, 1, none⟩ = false ∧ w.frozen? ⟨b, 2, none⟩ = false ∧ w.frozen? ⟨b, 3, none⟩ = false ∧ w.frozen? ⟨b, 4, none⟩ = false :=
 ⟨h.frozen 0, h.frozen 1, h.frozen 2, h.frozen 3, h.frozen 4⟩
def Inf.tm (i : Inf) : Value := .agg #[.int .i64 i.need, .int .i64 i.net, .int .i64 i.high, .int .i64 i.steps, .bool (!i.str)]
theorem three_allocs (w : World) (a b c : Obj) : w.heap.size + 1 + 1 + 1 = (((w.alloc a).alloc b).alloc c).heap.size := by simp
theorem eff_of (t p : Int) (w : World) (h0 : 0 ≤ t) (h1 : t ≤ 100) (h2 : 0 ≤ p) (h3 : p ≤ 100) :
  Calls Tryz.prog 202 #[.int .i64 t, .int .i64 p] w fun e w' => e = .returned (.agg #[.int .i64 t, .int .i64 (p - t), .int .i64 (max 0 (p - t))]) ∧ Below w.heap.size w w' := by
 go_enter Tryz.func202, Tryz.ntmps202
 go_wp2
 refine bodyPost_ret (v := .agg #[.int .i64 t, .int .i64 (p - t), .int .i64 (max 0 (p - t))]) (by simp [results, Tryz.results202, go_sem]) rfl ⟨rfl, ?_⟩
 exact (Below.refl _ _).alloc (Nat.le_refl _) _
theorem eff_step (t p : Int) (w : World) (h0 : 0 ≤ t) (h1 : t ≤ 100) (h2 : 0 ≤ p) (h3 : p ≤ 100) :
  Calls Tryz.prog 177 #[.int .i64 t, .int .i64 p] w fun e w' => e = .returned (Inf.plain t p).tm ∧ Below w.heap.size w w' := by
 go_enter Tryz.func177, Tryz.ntmps177
 go_wp2_with fail
 refine (eff_of t p _ h0 h1 h2 h3).mono ?_
 rintro e w1 ⟨rfl, hb⟩
 have hb1 : Below (w.heap.size + 1) (w.alloc (.cells #[.int .i64 0, .int .i64 0, .int .i64 0, .int .i64 0, .bool false] 151 (0, 0))) w1 := by simpa using hb
 have hz := fun o => hb1.cell (p := ⟨w.heap.size, o, none⟩) (by simp)
 have hf := fun o => hb1.frozen (p := ⟨w.heap.size, o, none⟩) (by simp)
 have c0 := hz 0; have c1 := hz 1; have c2 := hz 2; have c3 := hz 3; have c4 := hz 4
 have f0 := hf 0; have f1 := hf 1; have f2 := hf 2; have f3 := hf 3; have f4 := hf 4
 clear hz hf hb
 simp [go_sem] at c0 c1 c2 c3 c4 f0 f1 f2 f3 f4
 go_wp2
 refine bodyPost_ret (v := (Inf.plain t p).tm) (by simp [results, Tryz.results177, go_sem, c0, c1, c2, c3, c4]; rfl) rfl ⟨rfl, ?_⟩
 exact (((((below1 hb1).setCell (by simp) _).setCell (by simp) _).setCell (by simp) _).setCell (by simp) _).setCell (by simp) _
theorem eff_level (n t h : Int) (w : World) :
  Calls Tryz.prog 188 #[.agg #[.int .i64 n, .int .i64 t, .int .i64 h]] w fun e w' => e = .returned (.bool (t == 0)) ∧ Below w.heap.size w w' := by
 go_enter Tryz.func188, Tryz.ntmps188
 go_wp2
 go_ret
 exact ⟨rfl, (Below.refl _ _).alloc (Nat.le_refl _) _⟩
theorem eff_agrees (n t h n2 t2 h2 : Int) (w : World) :
  Calls Tryz.prog 186 #[.agg #[.int .i64 n, .int .i64 t, .int .i64 h], .agg #[.int .i64 n2, .int .i64 t2, .int .i64 h2]] w fun e w' => e = .returned (.bool (t == t2)) ∧ Below w.heap.size w w' := by
 go_enter Tryz.func186, Tryz.ntmps186
 go_wp2
 go_ret
 exact ⟨rfl, ((Below.refl _ _).alloc (Nat.le_refl _) _).alloc (by simp) _⟩
theorem eff_capped (n : Int) (w : World) :
  Calls Tryz.prog 205 #[.int .i64 n] w fun e w' => e = .returned (.int .i64 (min n 1000000001)) ∧ w' = w := by
 go_enter Tryz.func205, Tryz.ntmps205
 go_wp2
 go_ret
 exact ⟨rfl, rfl⟩
theorem eff_long (n t h s : Int) (b : Bool) (w : World) :
  Calls Tryz.prog 183 #[.agg #[.int .i64 n, .int .i64 t, .int .i64 h, .int .i64 s, .bool b]] w fun e w' => e = .returned (.bool (decide (1000000000 < s))) ∧ Below w.heap.size w w' := by
 go_enter Tryz.func183, Tryz.ntmps183
 go_wp2
 go_ret
 exact ⟨rfl, (Below.refl _ _).alloc (Nat.le_refl _) _⟩
theorem eff_ethen (n1 t1 h1 n2 t2 h2 : Int) (w : World)
  (x1 : -1000000000000000000 ≤ t1) (x2 : t1 ≤ 1000000000000000000) (x3 : -1000000000000000000 ≤ n2) (x4 : n2 ≤ 1000000000000000000)
  (x5 : -1000000000000000000 ≤ t2) (x6 : t2 ≤ 1000000000000000000) (x7 : -1000000000000000000 ≤ h2) (x8 : h2 ≤ 1000000000000000000) :
  Calls Tryz.prog 212 #[.agg #[.int .i64 n1, .int .i64 t1, .int .i64 h1], .agg #[.int .i64 n2, .int .i64 t2, .int .i64 h2]] w
   fun e w' => e = .returned (.agg #[.int .i64 (max n1 (n2 - t1)), .int .i64 (t1 + t2), .int .i64 (max h1 (t1 + h2))]) ∧ Below w.heap.size w w' := by
 go_enter Tryz.func212, Tryz.ntmps212
 go_wp2
 refine bodyPost_ret (v := .agg #[.int .i64 (max n1 (n2 - t1)), .int .i64 (t1 + t2), .int .i64 (max h1 (t1 + h2))]) (by simp [results, Tryz.results212, go_sem]) rfl ⟨rfl, ?_⟩
 exact (((Below.refl _ _).alloc (Nat.le_refl _) _).alloc (by simp) _).alloc (by simp; omega) _
theorem eff_eor (n1 t1 h1 n2 t2 h2 : Int) (w : World) :
  Calls Tryz.prog 204 #[.agg #[.int .i64 n1, .int .i64 t1, .int .i64 h1], .agg #[.int .i64 n2, .int .i64 t2, .int .i64 h2]] w
   fun e w' => e = .returned (.agg #[.int .i64 (max n1 n2), .int .i64 t1, .int .i64 (max h1 h2)]) ∧ Below w.heap.size w w' := by
 go_enter Tryz.func204, Tryz.ntmps204
 go_wp2
 refine bodyPost_ret (v := .agg #[.int .i64 (max n1 n2), .int .i64 t1, .int .i64 (max h1 h2)]) (by simp [results, Tryz.results204, go_sem]) rfl ⟨rfl, ?_⟩
 exact (((Below.refl _ _).alloc (Nat.le_refl _) _).alloc (by simp) _).alloc (by simp; omega) _
theorem eff_then0 (n1 t1 h1 s1 n2 t2 h2 s2 : Int) (b1 b2 : Bool) (w : World)
  (x1 : -1000000000000000000 ≤ t1) (x2 : t1 ≤ 1000000000000000000) (x3 : -1000000000000000000 ≤ n2) (x4 : n2 ≤ 1000000000000000000)
  (x5 : -1000000000000000000 ≤ t2) (x6 : t2 ≤ 1000000000000000000) (x7 : -1000000000000000000 ≤ h2) (x8 : h2 ≤ 1000000000000000000)
  (x9 : 0 ≤ s1) (y1 : s1 ≤ 1000000000000000000) (y2 : 0 ≤ s2) (y3 : s2 ≤ 1000000000000000000) :
  Calls Tryz.prog 203 #[.agg #[.int .i64 n1, .int .i64 t1, .int .i64 h1, .int .i64 s1, .bool b1], .agg #[.int .i64 n2, .int .i64 t2, .int .i64 h2, .int .i64 s2, .bool b2]] w
   fun e w' => e = .returned (.agg #[.int .i64 (max n1 (n2 - t1)), .int .i64 (t1 + t2), .int .i64 (max h1 (t1 + h2)), .int .i64 (min (s1 + s2) 1000000001), .bool (b1 || b2)]) ∧ Below w.heap.size w w' := by
 cases b1
 all_goals
  go_enter Tryz.func203, Tryz.ntmps203
  go_wp2_with fail
  have hc := fun (B : Nat) (w0 : World) (u : Und B w0) (b o : Nat) (h : b < B) => u.cell b o h
  have hne := Und.ne
  refine wp_region_und_tail (w.heap.size + 1 + 1 + 1) 18 (by kernel_rfl) (by kernel_rfl) ?_
  simp only [List.take_succ_cons, List.take_zero, List.drop_succ_cons, List.drop_zero]
  repeat (go_big_quiet_step ((first | (go_at_call 205; exact Und.calls_same _ (eff_capped _ _)) | (go_at_call 212; exact Und.calls (Nat.le_of_eq (three_allocs _ _ _ _)) _ (eff_ethen n1 t1 h1 n2 t2 h2 _ x1 x2 x3 x4 x5 x6 x7 x8)))))
  refine wpQuiet_nil ?_
  intro u
  obtain ⟨w1, hb⟩ := u
  have hz := fun o => hb.cell (p := ⟨w.heap.size + 1 + 1, o, none⟩) (by simp)
  have hf := fun o => hb.frozen (p := ⟨w.heap.size + 1 + 1, o, none⟩) (by simp)
  have c0 := hz 0; have c1 := hz 1; have c2 := hz 2; have c3 := hz 3; have c4 := hz 4
  have f0 := hf 0; have f1 := hf 1; have f2 := hf 2; have f3 := hf 3; have f4 := hf 4
  clear hz hf hc hne
  simp [go_sem] at c0 c1 c2 c3 c4 f0 f1 f2 f3 f4
  go_wp2
  refine bodyPost_ret (v := .agg #[.int .i64 (max n1 (n2 - t1)), .int .i64 (t1 + t2), .int .i64 (max h1 (t1 + h2)), .int .i64 (min (s1 + s2) 1000000001), _]) (by simp [results, Tryz.results203, go_sem, c0, c1, c2, c3, c4]; rfl) rfl ⟨by simp, ?_⟩
  exact ((((((below3 hb).setCell (by simp; omega) _).setCell (by simp; omega) _).setCell (by simp; omega) _).setCell (by simp; omega) _).setCell (by simp; omega) _)
theorem eff_then (a b : Inf) (ha : a.Ok) (hb : b.Ok) (w : World) :
  Calls Tryz.prog 203 #[a.tm, b.tm] w fun e w' => e = .returned (a.then b).tm ∧ Below w.heap.size w w' := by
 obtain ⟨a1, a2, a3, a4, a5, a6, a7, a8⟩ := ha
 obtain ⟨b1, b2, b3, b4, b5, b6, b7, b8⟩ := hb
 refine (eff_then0 a.need a.net a.high a.steps b.need b.net b.high b.steps (!a.str) (!b.str) w (by omega) (by omega) (by omega) (by omega) (by omega) (by omega) (by omega) (by omega) (by omega) (by omega) (by omega) (by omega)).mono ?_
 rintro e w1 ⟨rfl, h⟩
 exact ⟨by simp [Inf.then, Inf.tm], h⟩
theorem eff_or0 (n1 t1 h1 s1 n2 t2 h2 s2 : Int) (b1 b2 : Bool) (w : World) :
  Calls Tryz.prog 187 #[.agg #[.int .i64 n1, .int .i64 t1, .int .i64 h1, .int .i64 s1, .bool b1], .agg #[.int .i64 n2, .int .i64 t2, .int .i64 h2, .int .i64 s2, .bool b2]] w
   fun e w' => e = .returned (.agg #[.int .i64 (max n1 n2), .int .i64 t1, .int .i64 (max h1 h2), .int .i64 (max s1 s2), .bool (b1 || b2)]) ∧ Below w.heap.size w w' := by
 cases b1
 all_goals
  go_enter Tryz.func187, Tryz.ntmps187
  go_wp2_with fail
  have hc := fun (B : Nat) (w0 : World) (u : Und B w0) (b o : Nat) (h : b < B) => u.cell b o h
  have hne := Und.ne
  refine wp_region_und_tail (w.heap.size + 1 + 1 + 1) 17 (by kernel_rfl) (by kernel_rfl) ?_
  simp only [List.take_succ_cons, List.take_zero, List.drop_succ_cons, List.drop_zero]
  repeat (go_big_quiet_step ((go_at_call 204; exact Und.calls (Nat.le_of_eq (three_allocs _ _ _ _)) _ (eff_eor n1 t1 h1 n2 t2 h2 _))))
  refine wpQuiet_nil ?_
  intro u
  obtain ⟨w1, hb⟩ := u
  have hz := fun o => hb.cell (p := ⟨w.heap.size + 1 + 1, o, none⟩) (by simp)
  have hf := fun o => hb.frozen (p := ⟨w.heap.size + 1 + 1, o, none⟩) (by simp)
  have c0 := hz 0; have c1 := hz 1; have c2 := hz 2; have c3 := hz 3; have c4 := hz 4
  have f0 := hf 0; have f1 := hf 1; have f2 := hf 2; have f3 := hf 3; have f4 := hf 4
  clear hz hf hc hne
  simp [go_sem] at c0 c1 c2 c3 c4 f0 f1 f2 f3 f4
  go_wp2
  refine bodyPost_ret (v := .agg #[.int .i64 (max n1 n2), .int .i64 t1, .int .i64 (max h1 h2), .int .i64 (max s1 s2), _]) (by simp [results, Tryz.results187, go_sem, c0, c1, c2, c3, c4]; rfl) rfl ⟨by simp, ?_⟩
  exact ((((((below3 hb).setCell (by simp; omega) _).setCell (by simp; omega) _).setCell (by simp; omega) _).setCell (by simp; omega) _).setCell (by simp; omega) _)
theorem eff_times0 (n1 t1 h1 s1 k : Int) (b1 : Bool) (w : World) (hk : k ≠ 0) (k0 : 0 ≤ k) (k1 : k ≤ 1000) (s0 : 0 ≤ s1) (s2 : s1 ≤ 1000000001) :
  Calls Tryz.prog 189 #[.agg #[.int .i64 n1, .int .i64 t1, .int .i64 h1, .int .i64 s1, .bool b1], .int .i64 k] w
   fun e w' => e = .returned (.agg #[.int .i64 n1, .int .i64 t1, .int .i64 h1, .int .i64 (min (s1 * k) 1000000001), .bool b1]) ∧ Below w.heap.size w w' := by
 have hp : 0 ≤ s1 * k := Int.mul_nonneg s0 k0
 have hq : s1 * k ≤ 1000000001 * 1000 := Int.mul_le_mul s2 k1 k0 (by omega)
 go_enter Tryz.func189, Tryz.ntmps189
 go_wp2
 refine bodyPost_ret (v := .agg #[.int .i64 n1, .int .i64 t1, .int .i64 h1, .int .i64 (min (s1 * k) 1000000001), .bool b1]) (by simp [results, Tryz.results189, go_sem]) rfl ⟨rfl, ?_⟩
 exact ((Below.refl _ _).alloc (Nat.le_refl _) _).alloc (by simp) _
theorem eff_times1 (n1 t1 h1 s1 : Int) (b1 : Bool) (w : World) :
  Calls Tryz.prog 189 #[.agg #[.int .i64 n1, .int .i64 t1, .int .i64 h1, .int .i64 s1, .bool b1], .int .i64 0] w
   fun e w' => e = .returned (.agg #[.int .i64 0, .int .i64 0, .int .i64 0, .int .i64 0, .bool b1]) ∧ Below w.heap.size w w' := by
 go_enter Tryz.func189, Tryz.ntmps189
 go_wp2
 refine bodyPost_ret (v := .agg #[.int .i64 0, .int .i64 0, .int .i64 0, .int .i64 0, .bool b1]) (by simp [results, Tryz.results189, go_sem]) rfl ⟨rfl, ?_⟩
 exact ((Below.refl _ _).alloc (Nat.le_refl _) _).alloc (by simp) _
def opTab : List (ByteArray × Int × Int) :=
 [(⟨#[43]⟩, 2, 1), (⟨#[45]⟩, 2, 1), (⟨#[42]⟩, 2, 1), (⟨#[97, 110, 100]⟩, 2, 1), (⟨#[111, 114]⟩, 2, 1), (⟨#[120, 111, 114]⟩, 2, 1), (⟨#[47]⟩, 2, 1), (⟨#[109, 111, 100]⟩, 2, 1), (⟨#[61]⟩, 2, 1), (⟨#[60]⟩, 2, 1), (⟨#[62]⟩, 2, 1), (⟨#[109, 105, 110]⟩, 2, 1), (⟨#[109, 97, 120]⟩, 2, 1), (⟨#[110, 101, 103, 97, 116, 101]⟩, 1, 1), (⟨#[97, 98, 115]⟩, 1, 1), (⟨#[48, 61]⟩, 1, 1), (⟨#[100, 117, 112]⟩, 1, 2), (⟨#[100, 114, 111, 112]⟩, 1, 0), (⟨#[115, 119, 97, 112]⟩, 2, 2), (⟨#[111, 118, 101, 114]⟩, 2, 3), (⟨#[114, 111, 116]⟩, 3, 3), (⟨#[110, 105, 112]⟩, 2, 1), (⟨#[116, 117, 99, 107]⟩, 2, 3), (⟨#[64]⟩, 1, 1), (⟨#[33]⟩, 2, 0), (⟨#[105, 110]⟩, 0, 1), (⟨#[111, 117, 116]⟩, 1, 0), (⟨#[105]⟩, 0, 1), (⟨#[]⟩, 0, 1), (⟨#[]⟩, 1, 0), (⟨#[]⟩, 0, 0), (⟨#[]⟩, 2, 0), (⟨#[]⟩, 0, 0), (⟨#[]⟩, 0, 0), (⟨#[]⟩, 0, 0)]
def opCells : List Value := opTab.flatMap fun x => [.string x.1, .int .i64 x.2.1, .int .i64 x.2.2]
def ErrAt (w : World) (g : Nat) : Prop := ∃ ev, w.cell? ⟨g, 0, none⟩ = some ev ∧ (ev = .nilIface ∨ ∃ te pe, ev = .iface te pe)
def Tab (w : World) : Prop := (∃ t f, w.heap[(0 : Nat)]? = some (.cells opCells.toArray t f)) ∧ ErrAt w 1 ∧ ErrAt w 2
theorem ErrAt.lt {w : World} {g : Nat} (h : ErrAt w g) : g < w.heap.size := by
 obtain ⟨ev, h1, _⟩ := h; exact World.block_lt_of_cell? w ⟨g, 0, none⟩ h1
theorem Tab.lt {w : World} (h : Tab w) : 3 ≤ w.heap.size := by
 obtain ⟨⟨t, f, h1⟩, h2, h3⟩ := h
 have a := (Array.getElem?_eq_some_iff.1 h1).1
 have b := h2.lt
 have c := h3.lt
 omega
theorem Tab.chg {S : Nat → Prop} {w w' : World} (h : Tab w) (hc : Chg S w w') (hn : ∀ k, S k → 3 ≤ k) : Tab w' := by
 obtain ⟨⟨t, f, h1⟩, h2, h3⟩ := h
 have key : ∀ k, k < 3 → ¬ S k := fun k hk hs => by have := hn k hs; omega
 refine ⟨⟨t, f, (hc.block _ (Array.getElem?_eq_some_iff.1 h1).1 (key _ (by omega))).trans h1⟩, ?_, ?_⟩
 ·have hl := h2.lt
  obtain ⟨ev, a, b⟩ := h2
  exact ⟨ev, (hc.cell (p := ⟨1, 0, none⟩) hl (key 1 (by omega))).trans a, b⟩
 ·have hl := h3.lt
  obtain ⟨ev, a, b⟩ := h3
  exact ⟨ev, (hc.cell (p := ⟨2, 0, none⟩) hl (key 2 (by omega))).trans a, b⟩
theorem Tab.below {w w' : World} (h : Tab w) (hc : Below w.heap.size w w') : Tab w' := h.chg (Chg.ofBelow (S := fun _ => False) hc) (fun _ e => e.elim)
theorem Tab.cell {w : World} (h : Tab w) (o : Nat) (v : Value) (hv : opCells[o]? = some v) : w.cell? ⟨0, o, none⟩ = some v := by
 obtain ⟨⟨t, f, h⟩, _⟩ := h; simp [World.cell?, h, hv]
def opInf (k : Nat) : Inf := ⟨(opTab.getD k (⟨#[]⟩, 0, 0)).2.1, (opTab.getD k (⟨#[]⟩, 0, 0)).2.2 - (opTab.getD k (⟨#[]⟩, 0, 0)).2.1, max 0 ((opTab.getD k (⟨#[]⟩, 0, 0)).2.2 - (opTab.getD k (⟨#[]⟩, 0, 0)).2.1), 1, !(k == 29)⟩
theorem opTab_cells (k : Nat) (h : k < 35) : opCells[k * 3 + 0]? = some (.string (opTab.getD k (⟨#[]⟩, 0, 0)).1) ∧ opCells[k * 3 + 1]? = some (.int .i64 (opTab.getD k (⟨#[]⟩, 0, 0)).2.1) ∧ opCells[k * 3 + 2]? = some (.int .i64 (opTab.getD k (⟨#[]⟩, 0, 0)).2.2) := by
 have hl : k < opTab.length := h
 have key := fun j hj => flat_get (fun x : ByteArray × Int × Int => [Value.string x.1, .int .i64 x.2.1, .int .i64 x.2.2]) 3 (fun _ => rfl) opTab k j hl hj
 refine ⟨?_, ?_, ?_⟩
 ·rw [opCells, key 0 (by omega)]; simp [hl]
 ·rw [opCells, key 1 (by omega)]; simp [hl]
 ·rw [opCells, key 2 (by omega)]; simp [hl]
theorem opTab_bd : ∀ k, k < 35 → 0 ≤ (opTab.getD k (⟨#[]⟩, 0, 0)).2.1 ∧ (opTab.getD k (⟨#[]⟩, 0, 0)).2.1 ≤ 3 ∧ 0 ≤ (opTab.getD k (⟨#[]⟩, 0, 0)).2.2 ∧ (opTab.getD k (⟨#[]⟩, 0, 0)).2.2 ≤ 3 := by decide +kernel
attribute [local go_sem] quietF
theorem code_effect0 (k : Nat) (t p : Int) (w : World) (hki : (k : Int) < 35) (hk0 : (0 : Int) ≤ (k : Int)) (hl : 0 < w.heap.size)
  (r1 : w.cell? ⟨0, k * 3 + 1, none⟩ = some (.int .i64 t)) (r2 : w.cell? ⟨0, k * 3 + 2, none⟩ = some (.int .i64 p))
  (d1 : 0 ≤ t) (d2 : t ≤ 3) (d3 : 0 ≤ p) (d4 : p ≤ 3) :
  Calls Tryz.prog 137 #[.int .i64 k] w fun e w' => e = .returned (.agg #[.int .i64 t, .int .i64 (p - t), .int .i64 (max 0 (p - t)), .int .i64 1, .bool ((k : Int) == 29)]) ∧ Below w.heap.size w w' := by
 have hst := fun w0 => eff_step t p w0 d1 (by omega) d3 (by omega)
 simp only [Inf.tm, Inf.plain] at hst
 have HST := hidden hst
 clear hst
 go_enter Tryz.func137, Tryz.ntmps137
 go_wp2_with fail
 obtain ⟨W, hW⟩ : ∃ W : World, W = w.alloc (.cells zero5 151 (0, 0)) := ⟨_, rfl⟩
 have hB0 : Below w.heap.size w W := by rw [hW]; exact (Below.refl _ _).alloc (Nat.le_refl _) _
 have hbk0 : Blk W w.heap.size zero5 151 := by rw [hW]; exact blk_new w zero5 _
 have q1 := (hB0.cell (p := ⟨0, k * 3 + 1, none⟩) hl).trans r1
 have q2 := (hB0.cell (p := ⟨0, k * 3 + 2, none⟩) hl).trans r2
 have hB := hidden hB0; have hbk := hidden hbk0
 have hne := UndA.ne W.heap.size W zero5 151 (Nat.le_refl _)
 have hlW := hbk0.lt
 have hcr : ∀ (S : Option Nat) (u : UndA W.heap.size W zero5 151 S), u.val.cell? ⟨0, k * 3 + 1, none⟩ = some (.int .i64 t) := fun S u => u.cell q1 (World.block_lt_of_cell? W _ q1)
 have hcx : ∀ (S : Option Nat) (u : UndA W.heap.size W zero5 151 S), u.val.cell? ⟨0, k * 3 + 2, none⟩ = some (.int .i64 p) := fun S u => u.cell q2 (World.block_lt_of_cell? W _ q2)
 clear hB0 hbk0
 show Code.wp _ _ _ _ (w.alloc (.cells zero5 151 (0, 0)))
 rw [← hW]
 clear hW
 refine wp_region_new zero5 151 9 (by kernel_rfl) (by kernel_rfl) rfl (fun _ => rfl) (fun a w => by simp [go_sem, zero5]) ?_
 simp only [List.take_succ_cons, List.take_zero, List.drop_succ_cons, List.drop_zero]
 repeat (refine wpQuietF_step (fun K hK => ?_); go_simp; first | (refine hK _ ?_; clear hK K) | (apply Exists.intro; refine ⟨fun S u => ?_, hK _ ?_⟩; (go_at_call 177; exact UndA.calls (Nat.le_refl _) u (HST.out _)); clear hK K))
 refine wpQuietF_nil ?_
 intro b1 w2 hb1 hbel2 hblk
 obtain ⟨c0, c1, c2, c3, c4⟩ := hblk.zero
 obtain ⟨f0, f1, f2, f3, f4⟩ := hblk.free
 have hlt2 := hblk.lt
 have hbk2 : Blk w2 w.heap.size zero5 151 := (hbel2.block _ hlW).trans hbk.out
 have hne2 : b1 ≠ w.heap.size := by omega
 have hne3 : w.heap.size ≠ b1 := by omega
 have HB2 := hidden hbel2
 have HBLK := hidden hblk; have HBK2 := hidden hbk2
 clear hcr hcx hne hbel2 hblk hbk2
 obtain ⟨W2, hW2⟩ : ∃ W2 : World, W2 = ((((w2.setCell ⟨b1, 0, none⟩ (.int .i64 t)).setCell ⟨b1, 1, none⟩ (.int .i64 (p - t))).setCell ⟨b1, 2, none⟩ (.int .i64 (max 0 (p - t)))).setCell ⟨b1, 3, none⟩ (.int .i64 1)).setCell ⟨b1, 4, none⟩ (.bool false) := ⟨_, rfl⟩
 have hblk3 : Blk W2 b1 #[.int .i64 t, .int .i64 (p - t), .int .i64 (max 0 (p - t)), .int .i64 1, .bool false] 151 := by rw [hW2]; exact blk_set5 HBLK.out _ _ _ _ _
 have hbk3 : Blk W2 w.heap.size zero5 151 := by
  rw [hW2]; exact ((((HBK2.out.setOther hne2 _).setOther hne2 _).setOther hne2 _).setOther hne2 _).setOther hne2 _
 have hbel3 : Below W.heap.size W W2 := by
  rw [hW2]; exact ((((HB2.out.setCell hb1 _).setCell hb1 _).setCell hb1 _).setCell hb1 _).setCell hb1 _
 have HB3 := hidden hbel3
 go_simp
 go_upto_region 2 with fail
 rw [← hW2]
 clear hW2 c0 c1 c2 c3 c4 f0 f1 f2 f3 f4 hbel3
 obtain ⟨W3, hW3⟩ : ∃ W3 : World, W3 = W2.setCell ⟨b1, 4, none⟩ (.bool ((k : Int) == 29)) := ⟨_, rfl⟩
 have hblk4 : Blk W3 b1 #[.int .i64 t, .int .i64 (p - t), .int .i64 (max 0 (p - t)), .int .i64 1, .bool ((k : Int) == 29)] 151 := by
  rw [hW3]; have := hblk3.set (o := 4) (.bool ((k : Int) == 29)); simpa using this
 have hbk4 : Blk W3 w.heap.size zero5 151 := by rw [hW3]; exact hbk3.setOther hne2 _
 have hbel4 : Below W.heap.size W W3 := by rw [hW3]; exact HB3.out.setCell hb1 _
 have HB4 := hidden hbel4
 have f4 := hblk3.frozen 4
 have c4 := hblk3.cell 4 _ rfl
 simp only [List.getElem_toArray, List.getElem_cons_succ, List.getElem_cons_zero] at c4
 clear hblk3 hbk3 hbel4
 go_upto_region 3 with fail
 rw [← hW3]
 clear hW3 f4 c4
 have c0 := hblk4.cell 0 _ rfl
 have c1 := hblk4.cell 1 _ rfl
 have c2 := hblk4.cell 2 _ rfl
 have c3 := hblk4.cell 3 _ rfl
 have c4 := hblk4.cell 4 _ rfl
 simp only [List.getElem_toArray, List.getElem_cons_succ, List.getElem_cons_zero] at c0 c1 c2 c3 c4
 obtain ⟨g0, g1, g2, g3, g4⟩ := hbk4.free
 obtain ⟨z0, z1, z2, z3, z4⟩ := hbk4.zero
 clear hblk4 hbk4
 go_wp2_with fail
 refine bodyPost_ret (v := .agg #[.int .i64 t, .int .i64 (p - t), .int .i64 (max 0 (p - t)), .int .i64 1, .bool ((k : Int) == 29)]) (by simp [results, Tryz.results137, go_sem, z0, z1, z2, z3, z4]) rfl ⟨rfl, ?_⟩
 have hs := hB.out.size
 exact ((((((hB.out.trans (HB4.out.mono hs)).setCell (by simp) _).setCell (by simp) _).setCell (by simp) _).setCell (by simp) _).setCell (by simp) _)
theorem code_effect (k : Nat) (w : World) (h1 : k < 35) (ht : Tab w) :
  Calls Tryz.prog 137 #[.int .i64 k] w fun e w' => e = .returned (opInf k).tm ∧ Below w.heap.size w w' := by
 obtain ⟨_, e1, e2⟩ := opTab_cells k h1
 obtain ⟨d1, d2, d3, d4⟩ := opTab_bd k h1
 refine (code_effect0 k _ _ w (by omega) (by omega) (by have := ht.lt; omega) (ht.cell _ _ e1) (ht.cell _ _ e2) d1 d2 d3 d4).mono ?_
 rintro e w1 ⟨rfl, h⟩
 refine ⟨?_, h⟩
 have hb : ((k : Int) == 29) = (k == 29) := by rw [Bool.eq_iff_iff, beq_iff_eq, beq_iff_eq]; omega
 simp [opInf, Inf.tm, hb]
end Go.Proofs.YtcphhbofjkenaaaGreatDoor
namespace Go.Proofs.YtcphhbofjkenaaaGreatDoor
set_option maxHeartbeats 16000000
open Go.RowKit
set_option linter.unusedVariables false
set_option linter.unusedSimpArgs false
def opFrom (s : ByteArray) : List (ByteArray × Int × Int) → Nat → Option Nat
 | [], _ => none
 | x :: l, k => if (x.1.toList == s.toList) = true ∧ (s.toList == []) = false then some k else opFrom s l (k + 1)
def opFind (s : ByteArray) : Option Nat := opFrom s opTab 0
def opRes : Option Nat → Value
 | some k => .tuple #[.int .i64 k, .bool true]
 | none => .tuple #[.int .i64 0, .bool false]
theorem wpList_index_part {P : Program} {ops : Array Oper} {rest : List Oper} {op : Oper} {a : Act} {w : World} {Q : Exit → Act → World → Prop} (hgd : op.guard = none) (ty : TypeId) (x y : Operand) (ho : op.op = .index ty x y)
  (V : Array Value) (j : Nat) (hx : a.eval x = .agg V) (hy : a.eval y = .int .i64 j) (n : Nat) (e : TypeId) (d : TypeDesc) (hu : P.underlying ty = some (.array n e)) (hj : j < n)
  (k : Nat) (hk : (P.info? e).map (·.size) = some k) (he : P.underlying e = some d) (hd : d.isRow = true) (cs : Array Value) (hc : V.extract (j * k) (j * k + k) = cs) (hs : cs.size = k)
  (h : wpList P ops Q rest (a.put op.dst (.agg cs)) w) : wpList P ops Q (op :: rest) a w := by
 refine wpList_plain hgd fun K hK => ?_
 have h0 : (0 : Int) ≤ (j : Int) ∧ (j : Int) < (n : Int) := by omega
 have hr : (Instr.index ty (.agg V) (.int .i64 j)).run P w = .ok (.agg cs) w := by
  cases hq : P.info? e with
  | none => simp [hq] at hk
  | some i =>
   have hsz : i.size = k := by simpa [hq] using hk
   unfold Instr.index
   simp [asIntOf, Sem.run_bind, run_underlying hu, h0, part, isAgg, run_underlying he, sizeOf, typeInfo, hq, hsz, hc, hs]
   rw [if_pos hj]
   cases d <;> simp_all
 unfold Oper.wp execOp
 simp only [ho, hx, hy, Sem.run_bind, hr]
 exact hK _ _ h
theorem opCells_extract (j : Nat) (h : j < 35) : opCells.toArray.extract (j * 3) (j * 3 + 3) = #[.string (opTab.getD j (⟨#[]⟩, 0, 0)).1, .int .i64 (opTab.getD j (⟨#[]⟩, 0, 0)).2.1, .int .i64 (opTab.getD j (⟨#[]⟩, 0, 0)).2.2] := by
 obtain ⟨e0, e1, e2⟩ := opTab_cells j h
 have hl : opCells.length = 105 := by decide +kernel
 apply Array.ext_getElem?
 intro i
 rw [Array.getElem?_extract]
 by_cases hi : i < 3
 ·rw [if_pos (by simp [hl]; omega)]
  match i, hi with
  | 0, _ => simpa using e0
  | 1, _ => simpa using e1
  | 2, _ => simpa using e2
 ·rw [if_neg (by simp [hl]; omega), Array.getElem?_eq_none (by simp; omega)]
theorem code_find (s : ByteArray) (w : World) (ht : Tab w) :
  Calls Tryz.prog 192 #[.string s] w fun e w' => e = .returned (opRes (opFind s)) ∧ Below w.heap.size w w' := by
 obtain ⟨R, hR⟩ : ∃ R, R = opFind s := ⟨_, rfl⟩
 rw [← hR]
 have hrg : w.rangeAt 0 0 opCells := fun j v hv => by simpa using ht.cell j v hv
 have HT := hidden ht
 have HG := hidden hrg
 have HR := hidden hR
 clear hR ht hrg
 go_enter Tryz.func192, Tryz.ntmps192
 go_upto_region 1 with fail
 refine wp_region_list ?_
 refine wpList_load_mid rfl _ _ rfl 0 0 rfl opCells _ HG.out Tryz.underlying263 rfl (by kernel_rfl) ?_
 generalize hV : opCells.toArray = V
 have HV := hidden hV
 clear hV
 go_wp2_with fail
 go_loopw [7] (fun i wr => ∃ j : Nat, j ≤ 35 ∧ i = .int .i64 j ∧ Below w.heap.size w wr ∧ Hid (R = opFrom s (opTab.drop j) j)) (fun i _ => 35 - (intOf i).toNat)
 case atStart => exact ⟨0, by omega, rfl, Below.refl _ _, HR⟩
 case round =>
  clear HR
  obtain ⟨j, hj, rfl, hb, HR⟩ := hrel
  have HB := hidden hb
  clear hb
  by_cases hz : j = 35
  ·subst hz
   go_wp2_with fail
   refine bodyPost_ret (v := .tuple #[.int .i64 0, .bool false]) (by simp [results, Tryz.results192, go_sem]) rfl ⟨?_, HB.out⟩
   have hRn : R = none := HR.out
   rw [hRn]; rfl
  ·have hj2 : (j : Int) < 35 := by omega
   have hj0 : (0 : Int) ≤ (j : Int) := by omega
   obtain ⟨x, hx⟩ : ∃ x, x = opTab.getD j (⟨#[]⟩, 0, 0) := ⟨_, rfl⟩
   have HX := hidden hx
   have HJ := hidden hj
   have HZ := hidden hz
   clear hx hj hz
   go_upto_region 3 with fail
   refine wp_region_list ?_
   refine wpList_plain rfl fun K hK => ?_
   go_simp
   refine hK _ _ ?_
   clear hK K
   have hjn : j < 35 := by have := HJ.out; have := HZ.out; omega
   have hex : V.extract (j * 3) (j * 3 + 3) = #[.string x.1, .int .i64 x.2.1, .int .i64 x.2.2] := by rw [← HV.out, HX.out]; exact opCells_extract j hjn
   refine wpList_index_part rfl _ _ _ rfl V j rfl rfl 35 _ _ Tryz.underlying263 hjn 3 (by kernel_rfl) Tryz.underlying262 rfl _ hex rfl ?_
   have hdr : opTab.drop j = x :: opTab.drop (j + 1) := by
    have h1 : j < opTab.length := hjn
    rw [HX.out, List.drop_eq_getElem_cons h1]; simp [h1]
   have hst : R = if (x.1.toList == s.toList) = true ∧ (s.toList == []) = false then some j else opFrom s (opTab.drop (j + 1)) (j + 1) := by
    rw [HR.out, hdr, opFrom]
   have HS := hidden hst
   have hj5 : (j : Int) ≤ 34 := by omega
   clear hst hdr hex hjn HR HX
   obtain ⟨n, t, p⟩ := x
   simp only [] at HS ⊢
   go_simp
   by_cases hn : (n.toList == s.toList) = true
   ·by_cases he : (s.toList == []) = true
    ·go_wp2_with fail
     go_round
     case rel => exact ⟨j + 1, by have := HJ.out; have := HZ.out; omega, by go_num, HB.out.alloc HB.out.size _, by have := HS.out; rw [if_neg (by simp [he])] at this; exact this⟩
     case measure => simp [intOf]; omega
    ·have he2 : (s.toList == []) = false := by simpa using he
     clear he
     go_wp2_with fail
     refine bodyPost_ret (v := .tuple #[.int .i64 j, .bool true]) (by simp [results, Tryz.results192, go_sem]) rfl ⟨?_, HB.out.alloc HB.out.size _⟩
     have hRn : R = some j := by have := HS.out; rw [if_pos ⟨hn, he2⟩] at this; exact this
     rw [hRn]; rfl
   ·have hn2 : (n.toList == s.toList) = false := by simpa using hn
    clear hn
    go_wp2_with fail
    go_round
    case rel => exact ⟨j + 1, by have := HJ.out; have := HZ.out; omega, by go_num, HB.out.alloc HB.out.size _, by have := HS.out; rw [if_neg (by simp [hn2])] at this; exact this⟩
    case measure => simp [intOf]; omega
end Go.Proofs.YtcphhbofjkenaaaGreatDoor
