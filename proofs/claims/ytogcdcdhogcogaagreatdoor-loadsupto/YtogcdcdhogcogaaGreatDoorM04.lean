/- The document's answer: what is known of items, one behind the other. -/
import Derived.Lib.MinMax
import Derived.WalkKit
import Derived.WalkLawsBesides
import Derived.WalkSpells
import Derived.Test.YtogcdcdhogcogaaGreatDoorM02
import Derived.Test.YtogcdcdhogcogaaGreatDoorM03

namespace Go.Proofs.YtogcdcdhogcogaaGreatDoor
open Go.RowKit
set_option linter.unusedVariables false
set_option linter.unusedSimpArgs false

/-- Numbers that do not come near to an int's end. -/
structure Inf.Ok (i : Inf) : Prop where
  n0 : -100000000000000000 ≤ i.need
  n1 : i.need ≤ 100000000000000000
  t0 : -100000000000000000 ≤ i.net
  t1 : i.net ≤ 100000000000000000
  h0 : -100000000000000000 ≤ i.high
  h1 : i.high ≤ 100000000000000000
  s0 : 0 ≤ i.steps
  s1 : i.steps ≤ 1000000001

set_option maxHeartbeats 400000 in
theorem ref_many (n : Int) (w : World) :
    Calls Tryz.prog 183 #[.int .i64 n] w fun e w' => e = .returned (.int .i64 (min n 1000000001)) ∧ w' = w := by
  by_cases h : 1000000001 < n
  · go_enter Tryz.func183, Tryz.ntmps183
    go_wp2
    go_ret
    exact ⟨ret_int (by omega), rfl⟩
  · go_enter Tryz.func183, Tryz.ntmps183
    go_wp2
    go_ret
    exact ⟨ret_int (by omega), rfl⟩

set_option maxHeartbeats 1000000 in
theorem ref_then0 (n1 t1 h1 s1 n2 t2 h2 s2 : Int) (b1 b2 : Bool) (w : World)
    (x1 : -1000000000000000000 ≤ t1) (x2 : t1 ≤ 1000000000000000000) (x3 : -1000000000000000000 ≤ n2) (x4 : n2 ≤ 1000000000000000000)
    (x5 : -1000000000000000000 ≤ t2) (x6 : t2 ≤ 1000000000000000000) (x7 : -1000000000000000000 ≤ h2) (x8 : h2 ≤ 1000000000000000000)
    (x9 : 0 ≤ s1) (y1 : s1 ≤ 1000000000000000000) (y2 : 0 ≤ s2) (y3 : s2 ≤ 1000000000000000000) :
    Calls Tryz.prog 160 #[.agg #[.int .i64 n1, .int .i64 t1, .int .i64 h1, .int .i64 s1, .bool b1], .agg #[.int .i64 n2, .int .i64 t2, .int .i64 h2, .int .i64 s2, .bool b2]] w
      fun e w' => e = .returned (.agg #[.int .i64 (max n1 (n2 - t1)), .int .i64 (t1 + t2), .int .i64 (max h1 (t1 + h2)), .int .i64 (min (s1 + s2) 1000000001), .bool (b1 && b2)]) ∧ Below w.heap.size w w' := by
  cases b1
  all_goals
    go_enter Tryz.func160, Tryz.ntmps160
    go_wp2
    have hc := fun (B : Nat) (w0 : World) (u : Und B w0) (b o : Nat) (h : b < B) => u.cell b o h
    have hne := Und.ne
    refine wp_region_und_tail (w.heap.size + 1 + 1 + 1) 34 (by kernel_rfl) (by kernel_rfl) ?_
    simp only [List.take_succ_cons, List.take_zero, List.drop_succ_cons, List.drop_zero]
    repeat (go_big_quiet_step ((go_at_call 183; exact Und.calls_same _ (ref_many _ _))))
    refine wpQuiet_nil ?_
    intro u
    obtain ⟨w1, hb⟩ := u
    have hz := fun o => hb.cell (p := ⟨w.heap.size + 1 + 1, o, none⟩) (by simp)
    have hf := fun o => hb.frozen (p := ⟨w.heap.size + 1 + 1, o, none⟩) (by simp)
    have c0 := hz 0; have c1 := hz 1; have c2 := hz 2; have c3 := hz 3; have c4 := hz 4
    have f0 := hf 0; have f1 := hf 1; have f2 := hf 2; have f3 := hf 3; have f4 := hf 4
    clear hz hf hc hne
    simp [go_sem] at c0 c1 c2 c3 c4 f0 f1 f2 f3 f4
    go_wp2
    refine bodyPost_ret (v := .agg #[.int .i64 (max n1 (n2 - t1)), .int .i64 (t1 + t2), .int .i64 (max h1 (t1 + h2)), .int .i64 (min (s1 + s2) 1000000001), _]) (by simp [results, Tryz.results160, go_sem, c0, c1, c2, c3, c4]; rfl) rfl ⟨by simp, ?_⟩
    exact ((((((below3 hb).setCell (by simp; omega) _).setCell (by simp; omega) _).setCell (by simp; omega) _).setCell (by simp; omega) _).setCell (by simp; omega) _)

theorem ref_then (a b : Inf) (w : World) (ha : a.Ok) (hb : b.Ok) :
    Calls Tryz.prog 160 #[a.val, b.val] w fun e w' => e = .returned (a.then b).val ∧ Below w.heap.size w w' :=
  ref_then0 a.need a.net a.high a.steps b.need b.net b.high b.steps a.str b.str w (by have := ha.t0; omega) (by have := ha.t1; omega) (by have := hb.n0; omega) (by have := hb.n1; omega)
    (by have := hb.t0; omega) (by have := hb.t1; omega) (by have := hb.h0; omega) (by have := hb.h1; omega) (by have := ha.s0; omega) (by have := ha.s1; omega) (by have := hb.s0; omega) (by have := hb.s1; omega)

/-- The first k of some, one behind the other. -/
def upTo (f : Nat → Inf) : Nat → Inf
  | 0 => Inf.zero
  | k + 1 => (upTo f k).then (f k)

def Inf.arr (i : Inf) : Array Value := #[.int .i64 i.need, .int .i64 i.net, .int .i64 i.high, .int .i64 i.steps, .bool i.str]

/-- Five cells are written. -/
theorem blk_set5 {w : World} {b : Nat} {t : TypeId} {a0 a1 a2 a3 a4 : Value} (h : Blk w b #[a0, a1, a2, a3, a4] t) (b0 b1 b2 b3 b4 : Value) :
    Blk (((((w.setCell ⟨b, 0, none⟩ b0).setCell ⟨b, 1, none⟩ b1).setCell ⟨b, 2, none⟩ b2).setCell ⟨b, 3, none⟩ b3).setCell ⟨b, 4, none⟩ b4) b #[b0, b1, b2, b3, b4] t := by
  have := ((((h.set (o := 0) b0).set (o := 1) b1).set (o := 2) b2).set (o := 3) b3).set (o := 4) b4
  simpa using this

theorem Blk.inf {w : World} {b : Nat} {t : TypeId} {i : Inf} (h : Blk w b i.arr t) : w.cell? ⟨b, 0, none⟩ = some (.int .i64 i.need) ∧ w.cell? ⟨b, 1, none⟩ = some (.int .i64 i.net) ∧ w.cell? ⟨b, 2, none⟩ = some (.int .i64 i.high) ∧ w.cell? ⟨b, 3, none⟩ = some (.int .i64 i.steps) ∧ w.cell? ⟨b, 4, none⟩ = some (.bool i.str) :=
  ⟨h.cell 0 _ rfl, h.cell 1 _ rfl, h.cell 2 _ rfl, h.cell 3 _ rfl, h.cell 4 _ rfl⟩
theorem blk_new (w : World) (cs : Array Value) (t : TypeId) : Blk (w.alloc (.cells cs t (0, 0))) w.heap.size cs t := by
  show (w.heap.push _)[w.heap.size]? = _
  simp
theorem blk_new1 (w : World) (o : Obj) (t : TypeId) : Blk ((w.alloc o).alloc (.cells Inf.zero.arr t (0, 0))) (w.heap.size + 1) Inf.zero.arr t := by
  have := blk_new (w.alloc o) Inf.zero.arr t
  simpa using this
def zero5 : Array Value := #[.int .i64 0, .int .i64 0, .int .i64 0, .int .i64 0, .bool false]
theorem Blk.zero {w : World} {b : Nat} {t : TypeId} (h : Blk w b zero5 t) : w.cell? ⟨b, 0, none⟩ = some (.int .i64 0) ∧ w.cell? ⟨b, 1, none⟩ = some (.int .i64 0) ∧ w.cell? ⟨b, 2, none⟩ = some (.int .i64 0) ∧ w.cell? ⟨b, 3, none⟩ = some (.int .i64 0) ∧ w.cell? ⟨b, 4, none⟩ = some (.bool false) :=
  ⟨h.cell 0 _ rfl, h.cell 1 _ rfl, h.cell 2 _ rfl, h.cell 3 _ rfl, h.cell 4 _ rfl⟩
theorem Blk.free {w : World} {b : Nat} {t : TypeId} {cs : Array Value} (h : Blk w b cs t) : w.frozen? ⟨b, 0, none⟩ = false ∧ w.frozen? ⟨b, 1, none⟩ = false ∧ w.frozen? ⟨b, 2, none⟩ = false ∧ w.frozen? ⟨b, 3, none⟩ = false ∧ w.frozen? ⟨b, 4, none⟩ = false :=
  ⟨h.frozen 0, h.frozen 1, h.frozen 2, h.frozen 3, h.frozen 4⟩

set_option maxHeartbeats 2000000 in
theorem ref_all (sb : Nat) (m cap : Nat) (ad : Option Addr) (f : Nat → Inf) (x : Nat → Array Value) (w : World) (hm : m ≤ 1100000) (hmc : m ≤ cap)
    (hf : ∀ j, j < m → (f j).Ok) (hu : ∀ j, j ≤ m → (upTo f j).Ok)
    (hc : ∀ j, j < m → ∃ g a0 a1 a2 a3 a4, ad = some ⟨g, 0, none⟩ ∧ g < w.heap.size ∧ x j = #[a0, a1, a2, a3, a4] ∧ w.cell? ⟨g, j * 5, none⟩ = some a0 ∧ w.cell? ⟨g, j * 5 + 1, none⟩ = some a1 ∧ w.cell? ⟨g, j * 5 + 2, none⟩ = some a2 ∧ w.cell? ⟨g, j * 5 + 3, none⟩ = some a3 ∧ w.cell? ⟨g, j * 5 + 4, none⟩ = some a4)
    (ho : ∀ j, j < m → ∀ w', Below w.heap.size w w' → Calls Tryz.prog 159 #[.pointer (some ⟨sb, 0, none⟩), .agg (x j)] w' fun e w'' => e = .returned (f j).val ∧ Below w'.heap.size w' w'') :
    Calls Tryz.prog 118 #[.pointer (some ⟨sb, 0, none⟩), .slice ad m cap] w fun e w' => e = .returned (upTo f m).val ∧ Below w.heap.size w w' := by
  obtain ⟨R, hR⟩ : ∃ R, R = upTo f m := ⟨_, rfl⟩
  rw [← hR]
  have HR := hidden hR; have HF := hidden hf; have HU := hidden hu; have HC := hidden hc; have HO := hidden ho
  clear hR hf hu hc ho
  go_enter Tryz.func118, Tryz.ntmps118
  go_wp2
  go_loopw [6] (fun i wr => ∃ j : Nat, j ≤ m ∧ i = .int .i64 j ∧ Blk wr (w.heap.size + 1) (upTo f j).arr 36 ∧ Blk wr w.heap.size zero5 36 ∧ Below w.heap.size w wr) (fun i _ => m - (intOf i).toNat)
  case atStart =>
    refine ⟨0, Nat.zero_le _, rfl, ?_, ?_, ((Below.refl _ _).alloc (Nat.le_refl _) _).alloc (by simp) _⟩
    · exact blk_new1 _ _ _
    · exact (blk_new w _ _).alloc _
  case round =>
    obtain ⟨j, hj, rfl, hB1, hB0, hbel⟩ := hrel
    by_cases hlt : j < m
    · obtain ⟨g, a0, a1, a2, a3, a4, rfl, hg, hx, e0, e1, e2, e3, e4⟩ := HC.out j hlt
      have q0 := (hbel.cell (p := ⟨g, j * 5, none⟩) hg).trans e0
      have q1 := (hbel.cell (p := ⟨g, j * 5 + 1, none⟩) hg).trans e1
      have q2 := (hbel.cell (p := ⟨g, j * 5 + 2, none⟩) hg).trans e2
      have q3 := (hbel.cell (p := ⟨g, j * 5 + 3, none⟩) hg).trans e3
      have q4 := (hbel.cell (p := ⟨g, j * 5 + 4, none⟩) hg).trans e4
      have hof := HO.out j hlt wr hbel
      rw [hx] at hof
      have HOF := hidden hof
      have hz1 := hB1.lt
      have HB := hidden hbel; have HB0 := hidden hB0; have HB1 := hidden hB1; have HX := hidden hx
      clear hof e0 e1 e2 e3 e4 hB0 hB1 hbel hx
      go_wp2_with fail
      refine HOF.out.mono ?_
      rintro e w1 ⟨rfl, hb1⟩
      clear q0 q1 q2 q3 q4
      have hB1' : Blk w1 (w.heap.size + 1) (upTo f j).arr 36 := (hb1.block _ hz1).trans HB1.out
      obtain ⟨c0, c1, c2, c3, c4⟩ := hB1'.inf
      obtain ⟨g0, g1, g2, g3, g4⟩ := hB1'.free
      have hz2 : w.heap.size + 1 < w1.heap.size := hB1'.lt
      have HB1' := hidden hB1'
      have Hb1 := hidden hb1
      clear hB1' hb1
      unfold Inf.val
      go_wp2_with fail
      have ha := HU.out j (by omega); have hb := HF.out j hlt
      refine (ref_then0 (upTo f j).need (upTo f j).net (upTo f j).high (upTo f j).steps (f j).need (f j).net (f j).high (f j).steps (upTo f j).str (f j).str _ (by have := ha.t0; omega) (by have := ha.t1; omega) (by have := hb.n0; omega) (by have := hb.n1; omega)
        (by have := hb.t0; omega) (by have := hb.t1; omega) (by have := hb.h0; omega) (by have := hb.h1; omega) (by have := ha.s0; omega) (by have := ha.s1; omega) (by have := hb.s0; omega) (by have := hb.s1; omega)).mono ?_
      rintro e w2 ⟨rfl, hb2⟩
      clear ha hb c0 c1 c2 c3 c4 g0 g1 g2 g3 g4
      have hB2 : Blk w2 (w.heap.size + 1) (upTo f j).arr 36 := (hb2.block _ (by simp; omega)).trans (HB1'.out.alloc _)
      have hB20 : Blk w2 w.heap.size zero5 36 := (hb2.block _ (by simp; omega)).trans (Blk.alloc ((Hb1.out.block _ (by omega)).trans HB0.out) _)
      have hbel2 : Below w.heap.size w w2 := (HB.out.trans (Hb1.out.mono (by have := HB.out.size; omega))).trans ((((Below.refl w1.heap.size w1).alloc (Nat.le_refl _) _).trans (hb2.mono (by simp))).mono (by omega))
      obtain ⟨c0, c1, c2, c3, c4⟩ := hB2.inf
      obtain ⟨g0, g1, g2, g3, g4⟩ := hB2.free
      have HZ := hidden hB2; have HZ0 := hidden hB20; have HZB := hidden hbel2
      clear hB2 hB20 hbel2 hb2
      go_wp2_with fail
      go_roundw
      case rel =>
        refine ⟨j + 1, by omega, by go_num, ?_, ?_, ?_⟩
        · exact blk_set5 HZ.out _ _ _ _ _
        · exact ((((HZ0.out.setOther (by simp) _).setOther (by simp) _).setOther (by simp) _).setOther (by simp) _).setOther (by simp) _
        · exact (((((HZB.out.setCell (by simp) _).setCell (by simp) _).setCell (by simp) _).setCell (by simp) _).setCell (by simp) _)
      case measure => simp [intOf]; omega
    · obtain rfl : j = m := by omega
      obtain ⟨c0, c1, c2, c3, c4⟩ := hB1.inf
      obtain ⟨d0, d1, d2, d3, d4⟩ := hB0.zero
      obtain ⟨g0, g1, g2, g3, g4⟩ := hB0.free
      have HB := hidden hbel
      clear hB0 hB1 hbel
      go_wp2_with fail
      refine bodyPost_ret (v := R.val) (by rw [HR.out]; simp [results, Tryz.results118, go_sem, Inf.val, d0, d1, d2, d3, d4]) rfl ⟨rfl, ?_⟩
      exact (((((HB.out.setCell (Nat.le_refl _) _).setCell (Nat.le_refl _) _).setCell (Nat.le_refl _) _).setCell (Nat.le_refl _) _).setCell (Nat.le_refl _) _)

end Go.Proofs.YtogcdcdhogcogaaGreatDoor

/- The program: what is known of items. -/
namespace Go.Proofs.YtogcdcdhogcogaaGreatDoor
open Go.RowKit
set_option linter.unusedVariables false
set_option linter.unusedSimpArgs false

/-- What is known, as the program has it: whether there is an 'if' in place of whether there is none. -/
def Inf.tm (i : Inf) : Value := .agg #[.int .i64 i.need, .int .i64 i.net, .int .i64 i.high, .int .i64 i.steps, .bool (!i.str)]

theorem three_allocs (w : World) (a b c : Obj) : w.heap.size + 1 + 1 + 1 = (((w.alloc a).alloc b).alloc c).heap.size := by simp

set_option maxHeartbeats 1000000 in
theorem eff_of (t p : Int) (w : World) (h0 : 0 ≤ t) (h1 : t ≤ 100) (h2 : 0 ≤ p) (h3 : p ≤ 100) :
    Calls Tryz.prog 190 #[.int .i64 t, .int .i64 p] w fun e w' => e = .returned (.agg #[.int .i64 t, .int .i64 (p - t), .int .i64 (max 0 (p - t))]) ∧ Below w.heap.size w w' := by
  go_enter Tryz.func190, Tryz.ntmps190
  go_wp2
  refine bodyPost_ret (v := .agg #[.int .i64 t, .int .i64 (p - t), .int .i64 (max 0 (p - t))]) (by simp [results, Tryz.results190, go_sem]) rfl ⟨rfl, ?_⟩
  exact (Below.refl _ _).alloc (Nat.le_refl _) _

set_option maxHeartbeats 1000000 in
theorem eff_step (t p : Int) (w : World) (h0 : 0 ≤ t) (h1 : t ≤ 100) (h2 : 0 ≤ p) (h3 : p ≤ 100) :
    Calls Tryz.prog 165 #[.int .i64 t, .int .i64 p] w fun e w' => e = .returned (Inf.plain t p).tm ∧ Below w.heap.size w w' := by
  go_enter Tryz.func165, Tryz.ntmps165
  go_wp2_with fail
  refine (eff_of t p _ h0 h1 h2 h3).mono ?_
  rintro e w1 ⟨rfl, hb⟩
  have hb1 : Below (w.heap.size + 1) (w.alloc (.cells #[.int .i64 0, .int .i64 0, .int .i64 0, .int .i64 0, .bool false] 144 (0, 0))) w1 := by simpa using hb
  have hz := fun o => hb1.cell (p := ⟨w.heap.size, o, none⟩) (by simp)
  have hf := fun o => hb1.frozen (p := ⟨w.heap.size, o, none⟩) (by simp)
  have c0 := hz 0; have c1 := hz 1; have c2 := hz 2; have c3 := hz 3; have c4 := hz 4
  have f0 := hf 0; have f1 := hf 1; have f2 := hf 2; have f3 := hf 3; have f4 := hf 4
  clear hz hf hb
  simp [go_sem] at c0 c1 c2 c3 c4 f0 f1 f2 f3 f4
  go_wp2
  refine bodyPost_ret (v := (Inf.plain t p).tm) (by simp [results, Tryz.results165, go_sem, c0, c1, c2, c3, c4]; rfl) rfl ⟨rfl, ?_⟩
  exact (((((below1 hb1).setCell (by simp) _).setCell (by simp) _).setCell (by simp) _).setCell (by simp) _).setCell (by simp) _

theorem eff_level (n t h : Int) (w : World) :
    Calls Tryz.prog 176 #[.agg #[.int .i64 n, .int .i64 t, .int .i64 h]] w fun e w' => e = .returned (.bool (t == 0)) ∧ Below w.heap.size w w' := by
  go_enter Tryz.func176, Tryz.ntmps176
  go_wp2
  go_ret
  exact ⟨rfl, (Below.refl _ _).alloc (Nat.le_refl _) _⟩

theorem eff_agrees (n t h n2 t2 h2 : Int) (w : World) :
    Calls Tryz.prog 174 #[.agg #[.int .i64 n, .int .i64 t, .int .i64 h], .agg #[.int .i64 n2, .int .i64 t2, .int .i64 h2]] w fun e w' => e = .returned (.bool (t == t2)) ∧ Below w.heap.size w w' := by
  go_enter Tryz.func174, Tryz.ntmps174
  go_wp2
  go_ret
  exact ⟨rfl, ((Below.refl _ _).alloc (Nat.le_refl _) _).alloc (by simp) _⟩

theorem eff_capped (n : Int) (w : World) :
    Calls Tryz.prog 193 #[.int .i64 n] w fun e w' => e = .returned (.int .i64 (min n 1000000001)) ∧ w' = w := by
  go_enter Tryz.func193, Tryz.ntmps193
  go_wp2
  go_ret
  exact ⟨rfl, rfl⟩

theorem eff_long (n t h s : Int) (b : Bool) (w : World) :
    Calls Tryz.prog 171 #[.agg #[.int .i64 n, .int .i64 t, .int .i64 h, .int .i64 s, .bool b]] w fun e w' => e = .returned (.bool (decide (1000000000 < s))) ∧ Below w.heap.size w w' := by
  go_enter Tryz.func171, Tryz.ntmps171
  go_wp2
  go_ret
  exact ⟨rfl, (Below.refl _ _).alloc (Nat.le_refl _) _⟩

set_option maxHeartbeats 1000000 in
theorem eff_ethen (n1 t1 h1 n2 t2 h2 : Int) (w : World)
    (x1 : -1000000000000000000 ≤ t1) (x2 : t1 ≤ 1000000000000000000) (x3 : -1000000000000000000 ≤ n2) (x4 : n2 ≤ 1000000000000000000)
    (x5 : -1000000000000000000 ≤ t2) (x6 : t2 ≤ 1000000000000000000) (x7 : -1000000000000000000 ≤ h2) (x8 : h2 ≤ 1000000000000000000) :
    Calls Tryz.prog 200 #[.agg #[.int .i64 n1, .int .i64 t1, .int .i64 h1], .agg #[.int .i64 n2, .int .i64 t2, .int .i64 h2]] w
      fun e w' => e = .returned (.agg #[.int .i64 (max n1 (n2 - t1)), .int .i64 (t1 + t2), .int .i64 (max h1 (t1 + h2))]) ∧ Below w.heap.size w w' := by
  go_enter Tryz.func200, Tryz.ntmps200
  go_wp2
  refine bodyPost_ret (v := .agg #[.int .i64 (max n1 (n2 - t1)), .int .i64 (t1 + t2), .int .i64 (max h1 (t1 + h2))]) (by simp [results, Tryz.results200, go_sem]) rfl ⟨rfl, ?_⟩
  exact (((Below.refl _ _).alloc (Nat.le_refl _) _).alloc (by simp) _).alloc (by simp; omega) _

set_option maxHeartbeats 1000000 in
theorem eff_eor (n1 t1 h1 n2 t2 h2 : Int) (w : World) :
    Calls Tryz.prog 192 #[.agg #[.int .i64 n1, .int .i64 t1, .int .i64 h1], .agg #[.int .i64 n2, .int .i64 t2, .int .i64 h2]] w
      fun e w' => e = .returned (.agg #[.int .i64 (max n1 n2), .int .i64 t1, .int .i64 (max h1 h2)]) ∧ Below w.heap.size w w' := by
  go_enter Tryz.func192, Tryz.ntmps192
  go_wp2
  refine bodyPost_ret (v := .agg #[.int .i64 (max n1 n2), .int .i64 t1, .int .i64 (max h1 h2)]) (by simp [results, Tryz.results192, go_sem]) rfl ⟨rfl, ?_⟩
  exact (((Below.refl _ _).alloc (Nat.le_refl _) _).alloc (by simp) _).alloc (by simp; omega) _

set_option maxHeartbeats 2000000 in
theorem eff_then0 (n1 t1 h1 s1 n2 t2 h2 s2 : Int) (b1 b2 : Bool) (w : World)
    (x1 : -1000000000000000000 ≤ t1) (x2 : t1 ≤ 1000000000000000000) (x3 : -1000000000000000000 ≤ n2) (x4 : n2 ≤ 1000000000000000000)
    (x5 : -1000000000000000000 ≤ t2) (x6 : t2 ≤ 1000000000000000000) (x7 : -1000000000000000000 ≤ h2) (x8 : h2 ≤ 1000000000000000000)
    (x9 : 0 ≤ s1) (y1 : s1 ≤ 1000000000000000000) (y2 : 0 ≤ s2) (y3 : s2 ≤ 1000000000000000000) :
    Calls Tryz.prog 191 #[.agg #[.int .i64 n1, .int .i64 t1, .int .i64 h1, .int .i64 s1, .bool b1], .agg #[.int .i64 n2, .int .i64 t2, .int .i64 h2, .int .i64 s2, .bool b2]] w
      fun e w' => e = .returned (.agg #[.int .i64 (max n1 (n2 - t1)), .int .i64 (t1 + t2), .int .i64 (max h1 (t1 + h2)), .int .i64 (min (s1 + s2) 1000000001), .bool (b1 || b2)]) ∧ Below w.heap.size w w' := by
  cases b1
  all_goals
    go_enter Tryz.func191, Tryz.ntmps191
    go_wp2_with fail
    have hc := fun (B : Nat) (w0 : World) (u : Und B w0) (b o : Nat) (h : b < B) => u.cell b o h
    have hne := Und.ne
    refine wp_region_und_tail (w.heap.size + 1 + 1 + 1) 18 (by kernel_rfl) (by kernel_rfl) ?_
    simp only [List.take_succ_cons, List.take_zero, List.drop_succ_cons, List.drop_zero]
    repeat (go_big_quiet_step ((first | (go_at_call 193; exact Und.calls_same _ (eff_capped _ _)) | (go_at_call 200; exact Und.calls (Nat.le_of_eq (three_allocs _ _ _ _)) _ (eff_ethen n1 t1 h1 n2 t2 h2 _ x1 x2 x3 x4 x5 x6 x7 x8)))))
    refine wpQuiet_nil ?_
    intro u
    obtain ⟨w1, hb⟩ := u
    have hz := fun o => hb.cell (p := ⟨w.heap.size + 1 + 1, o, none⟩) (by simp)
    have hf := fun o => hb.frozen (p := ⟨w.heap.size + 1 + 1, o, none⟩) (by simp)
    have c0 := hz 0; have c1 := hz 1; have c2 := hz 2; have c3 := hz 3; have c4 := hz 4
    have f0 := hf 0; have f1 := hf 1; have f2 := hf 2; have f3 := hf 3; have f4 := hf 4
    clear hz hf hc hne
    simp [go_sem] at c0 c1 c2 c3 c4 f0 f1 f2 f3 f4
    go_wp2
    refine bodyPost_ret (v := .agg #[.int .i64 (max n1 (n2 - t1)), .int .i64 (t1 + t2), .int .i64 (max h1 (t1 + h2)), .int .i64 (min (s1 + s2) 1000000001), _]) (by simp [results, Tryz.results191, go_sem, c0, c1, c2, c3, c4]; rfl) rfl ⟨by simp, ?_⟩
    exact ((((((below3 hb).setCell (by simp; omega) _).setCell (by simp; omega) _).setCell (by simp; omega) _).setCell (by simp; omega) _).setCell (by simp; omega) _)

theorem eff_then (a b : Inf) (ha : a.Ok) (hb : b.Ok) (w : World) :
    Calls Tryz.prog 191 #[a.tm, b.tm] w fun e w' => e = .returned (a.then b).tm ∧ Below w.heap.size w w' := by
  obtain ⟨a1, a2, a3, a4, a5, a6, a7, a8⟩ := ha
  obtain ⟨b1, b2, b3, b4, b5, b6, b7, b8⟩ := hb
  refine (eff_then0 a.need a.net a.high a.steps b.need b.net b.high b.steps (!a.str) (!b.str) w (by omega) (by omega) (by omega) (by omega) (by omega) (by omega) (by omega) (by omega) (by omega) (by omega) (by omega) (by omega)).mono ?_
  rintro e w1 ⟨rfl, h⟩
  exact ⟨by simp [Inf.then, Inf.tm], h⟩

set_option maxHeartbeats 2000000 in
theorem eff_or0 (n1 t1 h1 s1 n2 t2 h2 s2 : Int) (b1 b2 : Bool) (w : World) :
    Calls Tryz.prog 175 #[.agg #[.int .i64 n1, .int .i64 t1, .int .i64 h1, .int .i64 s1, .bool b1], .agg #[.int .i64 n2, .int .i64 t2, .int .i64 h2, .int .i64 s2, .bool b2]] w
      fun e w' => e = .returned (.agg #[.int .i64 (max n1 n2), .int .i64 t1, .int .i64 (max h1 h2), .int .i64 (max s1 s2), .bool (b1 || b2)]) ∧ Below w.heap.size w w' := by
  cases b1
  all_goals
    go_enter Tryz.func175, Tryz.ntmps175
    go_wp2_with fail
    have hc := fun (B : Nat) (w0 : World) (u : Und B w0) (b o : Nat) (h : b < B) => u.cell b o h
    have hne := Und.ne
    refine wp_region_und_tail (w.heap.size + 1 + 1 + 1) 17 (by kernel_rfl) (by kernel_rfl) ?_
    simp only [List.take_succ_cons, List.take_zero, List.drop_succ_cons, List.drop_zero]
    repeat (go_big_quiet_step ((go_at_call 192; exact Und.calls (Nat.le_of_eq (three_allocs _ _ _ _)) _ (eff_eor n1 t1 h1 n2 t2 h2 _))))
    refine wpQuiet_nil ?_
    intro u
    obtain ⟨w1, hb⟩ := u
    have hz := fun o => hb.cell (p := ⟨w.heap.size + 1 + 1, o, none⟩) (by simp)
    have hf := fun o => hb.frozen (p := ⟨w.heap.size + 1 + 1, o, none⟩) (by simp)
    have c0 := hz 0; have c1 := hz 1; have c2 := hz 2; have c3 := hz 3; have c4 := hz 4
    have f0 := hf 0; have f1 := hf 1; have f2 := hf 2; have f3 := hf 3; have f4 := hf 4
    clear hz hf hc hne
    simp [go_sem] at c0 c1 c2 c3 c4 f0 f1 f2 f3 f4
    go_wp2
    refine bodyPost_ret (v := .agg #[.int .i64 (max n1 n2), .int .i64 t1, .int .i64 (max h1 h2), .int .i64 (max s1 s2), _]) (by simp [results, Tryz.results175, go_sem, c0, c1, c2, c3, c4]; rfl) rfl ⟨by simp, ?_⟩
    exact ((((((below3 hb).setCell (by simp; omega) _).setCell (by simp; omega) _).setCell (by simp; omega) _).setCell (by simp; omega) _).setCell (by simp; omega) _)

set_option maxHeartbeats 2000000 in
theorem eff_times0 (n1 t1 h1 s1 k : Int) (b1 : Bool) (w : World) (hk : k ≠ 0) (k0 : 0 ≤ k) (k1 : k ≤ 1000) (s0 : 0 ≤ s1) (s2 : s1 ≤ 1000000001) :
    Calls Tryz.prog 177 #[.agg #[.int .i64 n1, .int .i64 t1, .int .i64 h1, .int .i64 s1, .bool b1], .int .i64 k] w
      fun e w' => e = .returned (.agg #[.int .i64 n1, .int .i64 t1, .int .i64 h1, .int .i64 (min (s1 * k) 1000000001), .bool b1]) ∧ Below w.heap.size w w' := by
  have hp : 0 ≤ s1 * k := Int.mul_nonneg s0 k0
  have hq : s1 * k ≤ 1000000001 * 1000 := Int.mul_le_mul s2 k1 k0 (by omega)
  go_enter Tryz.func177, Tryz.ntmps177
  go_wp2
  refine bodyPost_ret (v := .agg #[.int .i64 n1, .int .i64 t1, .int .i64 h1, .int .i64 (min (s1 * k) 1000000001), .bool b1]) (by simp [results, Tryz.results177, go_sem]) rfl ⟨rfl, ?_⟩
  exact ((Below.refl _ _).alloc (Nat.le_refl _) _).alloc (by simp) _

set_option maxHeartbeats 2000000 in
theorem eff_times1 (n1 t1 h1 s1 : Int) (b1 : Bool) (w : World) :
    Calls Tryz.prog 177 #[.agg #[.int .i64 n1, .int .i64 t1, .int .i64 h1, .int .i64 s1, .bool b1], .int .i64 0] w
      fun e w' => e = .returned (.agg #[.int .i64 0, .int .i64 0, .int .i64 0, .int .i64 0, .bool b1]) ∧ Below w.heap.size w w' := by
  go_enter Tryz.func177, Tryz.ntmps177
  go_wp2
  refine bodyPost_ret (v := .agg #[.int .i64 0, .int .i64 0, .int .i64 0, .int .i64 0, .bool b1]) (by simp [results, Tryz.results177, go_sem]) rfl ⟨rfl, ?_⟩
  exact ((Below.refl _ _).alloc (Nat.le_refl _) _).alloc (by simp) _

end Go.Proofs.YtogcdcdhogcogaaGreatDoor
