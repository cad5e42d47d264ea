/- The law: what is asked in any case. -/
import Derived.Test.YtcphhbofjkenaaaGreatDoorM43

namespace Go.Proofs.YtcphhbofjkenaaaGreatDoor
open Go Go.RowKit
set_option linter.unusedVariables false
set_option linter.unusedSimpArgs false

/-- One step of a script. -/
structure OpD where
  k : Int
  A : Int
  C : Int
  S : ByteArray
  a1 : Option Addr
  n1 : Nat
  c1 : Nat
  a2 : Option Addr
  n2 : Nat
  c2 : Nat
  a3 : Option Addr
  n3 : Nat
  c3 : Nat
def OpD.cells (o : OpD) : List Value := [.int .i64 o.k, .int .i64 o.A, .int .i64 o.C, .string o.S, .slice o.a1 o.n1 o.c1, .slice o.a2 o.n2 o.c2, .slice o.a3 o.n3 o.c3]
def opsC (l : List OpD) : List Value := l.flatMap OpD.cells

def sumT : ByteArray := ⟨#[115, 117, 109]⟩
def textT : ByteArray := ⟨#[58, 32, 115, 117, 109, 32, 48, 32, 53, 32, 49, 32, 100, 111, 32, 105, 32, 43, 32, 108, 111, 111, 112, 32, 111, 117, 116, 32, 59, 32, 118, 97, 114, 105, 97, 98, 108, 101, 32, 118]⟩
/-- The steps that come ahead of every script; tb, ib: where its tasks and its numbers lie. -/
def firstD (tb ib : Nat) : List OpD := [
  ⟨1, 0, 0, ⟨#[]⟩, none, 0, 0, none, 0, 0, none, 0, 0⟩,
  ⟨2, 0, 0, textT, none, 0, 0, none, 0, 0, none, 0, 0⟩,
  ⟨4, 0, 0, sumT, none, 0, 0, none, 0, 0, none, 0, 0⟩,
  ⟨3, 0, 0, ⟨#[]⟩, none, 0, 0, none, 0, 0, none, 0, 0⟩,
  ⟨5, 0, 100, sumT, some ⟨ib, 0, none⟩, 1, 1, none, 0, 0, none, 0, 0⟩,
  ⟨6, 0, 0, ⟨#[]⟩, none, 0, 0, none, 0, 0, some ⟨tb, 0, none⟩, 1, 1⟩,
  ⟨7, 0, 50, ⟨#[]⟩, none, 0, 0, none, 0, 0, some ⟨tb, 0, none⟩, 1, 1⟩]

/-- A list that was handed in, below B. -/
def DatAt (B : Nat) (w : World) (a : Option Addr) (n c size : Nat) (xs : List Value) : Prop :=
  xs.length = n * size ∧ n ≤ c ∧ ((a = none ∧ n = 0 ∧ c = 0) ∨ ∃ p, a = some p ∧ ∀ (j : Nat) (u : Value), xs[j]? = some u → p.block < B ∧ w.cell? (p.add j) = some u)
theorem addr_block (p : Addr) (n : Nat) : (p.add n).block = p.block := by unfold Addr.add; split <;> rfl
theorem DatAt.below {B : Nat} {w w' : World} {a : Option Addr} {n c size : Nat} {xs : List Value} (h : DatAt B w a n c size xs) (hb : Below B w w') : DatAt B w' a n c size xs := by
  obtain ⟨h1, h2, h3⟩ := h
  refine ⟨h1, h2, h3.imp id ?_⟩
  rintro ⟨p, e, hc⟩
  exact ⟨p, e, fun j u hu => ⟨(hc j u hu).1, by rw [hb.cell (by rw [addr_block]; exact (hc j u hu).1)]; exact (hc j u hu).2⟩⟩
theorem DatAt.mono {B B' : Nat} {w : World} {a : Option Addr} {n c size : Nat} {xs : List Value} (h : DatAt B w a n c size xs) (hb : B ≤ B') : DatAt B' w a n c size xs := by
  obtain ⟨h1, h2, h3⟩ := h
  refine ⟨h1, h2, h3.imp id ?_⟩
  rintro ⟨p, e, hc⟩
  exact ⟨p, e, fun j u hu => ⟨Nat.lt_of_lt_of_le (hc j u hu).1 hb, (hc j u hu).2⟩⟩
theorem DatAt.nil (B : Nat) (w : World) (size : Nat) : DatAt B w none 0 0 size [] := ⟨by simp, Nat.le_refl _, Or.inl ⟨rfl, rfl, rfl⟩⟩
theorem DatAt.blk {B b n size : Nat} {w : World} {cs : Array Value} {t : TypeId} (h : Blk w b cs t) (hb : b < B) (hs : cs.size = n * size) : DatAt B w (some ⟨b, 0, none⟩) n n size cs.toList :=
  ⟨by rw [Array.length_toList]; exact hs, Nat.le_refl _, Or.inr ⟨⟨b, 0, none⟩, rfl, fun j u hu => ⟨hb, by
    rw [Addr.add_lit, Nat.zero_add]; exact h.cell j u (by simpa using hu)⟩⟩⟩

/-- What a step of a script hands in. -/
def OpD.At (B : Nat) (w : World) (o : OpD) : Prop := ∃ (ls ms : List Int) (ts : List TK), DatAt B w o.a1 o.n1 o.c1 1 (ls.map (Value.int .i64)) ∧ DatAt B w o.a2 o.n2 o.c2 1 (ms.map (Value.int .i64)) ∧ DatAt B w o.a3 o.n3 o.c3 4 (ts.flatMap TK.cells) ∧ o.n1 ≤ 1100000 ∧ o.n2 ≤ 1100000 ∧ o.n3 ≤ 1100000
theorem OpD.At.below {B : Nat} {w w' : World} {o : OpD} (h : o.At B w) (hb : Below B w w') : o.At B w' := by
  obtain ⟨ls, ms, ts, h1, h2, h3, h4⟩ := h
  exact ⟨ls, ms, ts, h1.below hb, h2.below hb, h3.below hb, h4⟩
theorem OpD.At.mono {B B' : Nat} {w : World} {o : OpD} (h : o.At B w) (hb : B ≤ B') : o.At B' w := by
  obtain ⟨ls, ms, ts, h1, h2, h3, h4⟩ := h
  exact ⟨ls, ms, ts, h1.mono hb, h2.mono hb, h3.mono hb, h4⟩

def sumK : TK := ⟨sumT, 40, 30, 0⟩
theorem firstD_at {B : Nat} {w : World} {tb ib : Nat} (h1 : Blk w tb sumK.cells.toArray 67) (h2 : Blk w ib #[.int .i64 7] 3) (b1 : tb < B) (b2 : ib < B) : ∀ o ∈ firstD tb ib, o.At B w := by
  intro o ho
  have z0 : 0 ≤ 1100000 := by decide
  have z1 : 1 ≤ 1100000 := by decide
  have n1 := DatAt.nil B w 1
  have n4 := DatAt.nil B w 4
  have i1 : DatAt B w (some ⟨ib, 0, none⟩) 1 1 1 ([7].map (Value.int .i64)) := DatAt.blk h2 b2 rfl
  have t1 : DatAt B w (some ⟨tb, 0, none⟩) 1 1 4 ([sumK].flatMap TK.cells) := DatAt.blk h1 b1 rfl
  simp only [firstD, List.mem_cons, List.not_mem_nil, or_false] at ho
  rcases ho with rfl | rfl | rfl | rfl | rfl | rfl | rfl
  · exact ⟨[], [], [], n1, n1, n4, z0, z0, z0⟩
  · exact ⟨[], [], [], n1, n1, n4, z0, z0, z0⟩
  · exact ⟨[], [], [], n1, n1, n4, z0, z0, z0⟩
  · exact ⟨[], [], [], n1, n1, n4, z0, z0, z0⟩
  · exact ⟨[7], [], [], i1, n1, n4, z1, z0, z0⟩
  · exact ⟨[], [], [sumK], n1, n1, t1, z0, z0, z1⟩
  · exact ⟨[], [], [sumK], n1, n1, t1, z0, z0, z1⟩

theorem blk_first1 (w : World) (o2 o3 : Obj) (cs : Array Value) (t : TypeId) : Blk (((w.alloc (.cells cs t (0, 0))).alloc o2).alloc o3) w.heap.size cs t := ((blk_new w cs t).alloc o2).alloc o3
theorem blk_first2 (w : World) (o1 o3 : Obj) (cs : Array Value) (t : TypeId) : Blk (((w.alloc o1).alloc (.cells cs t (0, 0))).alloc o3) (w.heap.size + 1) cs t := by
  have := (blk_new (w.alloc o1) cs t).alloc o3
  simpa using this
theorem blk_new3 (w : World) (o1 o2 : Obj) (cs : Array Value) (t : TypeId) : Blk (((w.alloc o1).alloc o2).alloc (.cells cs t (0, 0))) (w.heap.size + 1 + 1) cs t := by
  have := blk_new ((w.alloc o1).alloc o2) cs t
  simpa using this

set_option maxRecDepth 100000 in
set_option maxHeartbeats 8000000 in
theorem law_first (w : World) :
    Calls Tryz.prog 33 #[] w fun e w' => e = .returned (.slice (some ⟨w.heap.size + 1 + 1, 0, none⟩) 7 7) ∧ Blk w' (w.heap.size + 1 + 1) (opsC (firstD w.heap.size (w.heap.size + 1))).toArray 86 ∧ Blk w' w.heap.size sumK.cells.toArray 67 ∧ Blk w' (w.heap.size + 1) #[.int .i64 7] 3 ∧ Below w.heap.size w w' := by
  go_enter Tryz.func33, Tryz.ntmps33
  go_wp2_with fail
  go_ret
  refine ⟨rfl, ?_, ?_, ?_, ?_⟩
  · exact blk_new3 w _ _ _ _
  · exact blk_first1 w _ _ _ _
  · exact blk_first2 w _ _ _ _
  · exact (((Below.refl _ _).alloc (Nat.le_refl _) _).alloc (by simp) _).alloc (by simp; omega) _

def opz : Value := .agg #[.int .i64 0, .int .i64 0, .int .i64 0, .string ⟨#[]⟩, .slice none 0 0, .slice none 0 0, .slice none 0 0]
theorem Tryz.infoOp : (Tryz.prog.info? 86).map (fun i => (i.zero, i.size, i.bytes)) = some (some opz, 7, 112) := by kernel_rfl
theorem opsC_len (l : List OpD) : (opsC l).length = l.length * 7 := flat_length OpD.cells 7 (fun _ => rfl) l
theorem opsC_one (l : List OpD) : ∀ u ∈ opsC l, u.oneCell' = true := by
  intro u hu
  unfold opsC at hu
  obtain ⟨o, _, hu⟩ := List.mem_flatMap.1 hu
  simp only [OpD.cells, List.mem_cons, List.not_mem_nil, or_false] at hu
  rcases hu with rfl | rfl | rfl | rfl | rfl | rfl | rfl <;> rfl

/-- A script in memory. -/
def ScriptAt (w : World) (v : Value) (ops : List OpD) : Prop :=
  (v = .slice none 0 0 ∧ ops = []) ∨ ∃ a c, v = .slice (some a) ops.length c ∧ ∀ (j : Nat) (u : Value), (opsC ops)[j]? = some u → w.cell? (a.add j) = some u

/-- What a law's walk over a script wants to know of its steps and looks. -/
structure Plays (pl : List Int) (all : List OpD) (St : Nat → Nat → World → Nat → Nat → Prop) : Prop where
  step : ∀ (B wb : Nat) (o : OpD), o ∈ all → (pl.any (fun x => x == o.k)) = true → ∀ (w : World) (k m : Nat), St B wb w k m → o.At B w → (o.k ≠ 1 → 0 < m) → k ≤ 2000000 →
    Calls Tryz.prog 35 #[.pointer (some ⟨wb, 0, none⟩), .agg #[.int .i64 o.k, .int .i64 o.A, .int .i64 o.C, .string o.S, .slice o.a1 o.n1 o.c1, .slice o.a2 o.n2 o.c2, .slice o.a3 o.n3 o.c3]] w fun e w' => e = .returned (.bool true) ∧ Below B w w' ∧ ∃ m', St B wb w' (k + 1) m' ∧ m ≤ m' ∧ (o.k = 1 → 0 < m')
  looks : ∀ (B wb : Nat) (w : World) (k m : Nat), St B wb w k m → k ≤ 2000001 → Calls Tryz.prog 36 #[.pointer (some ⟨wb, 1, none⟩)] w fun e w' => e = .returned (.bool true) ∧ Below w.heap.size w w'
  below : ∀ (B wb : Nat) (w w' : World) (k m : Nat), St B wb w k m → Below w.heap.size w w' → St B wb w' k m
  init : ∀ (W : World), Tab W → St W.heap.size W.heap.size (W.alloc (.cells (lwC nilV nilV nilV nilV nilV) 84 (0, 0))) 0 0
  size : ∀ (B wb : Nat) (w : World) (k m : Nat), St B wb w k m → B ≤ wb ∧ wb < w.heap.size
  one : pl.any (fun x => x == 1) = true

set_option maxRecDepth 100000 in
set_option maxHeartbeats 8000000 in
theorem law_plays {pl : List Int} {ops : List OpD} {St : Nat → Nat → World → Nat → Nat → Prop} (w : World) (sv : Value) (pb pcap : Nat) (hP : ∀ tb ib, Plays pl (firstD tb ib ++ ops) St) (hs : ScriptAt w sv ops) (hat : ∀ o ∈ ops, o.At w.heap.size w) (hn : ops.length ≤ 1100000) (ht : Tab w)
    (hl : pl.length ≤ 10) (hpc : pl.length ≤ pcap) (hpb : pb < w.heap.size) (hp : ∀ j (h : j < pl.length), w.cell? ⟨pb, j, none⟩ = some (.int .i64 pl[j])) :
    Calls Tryz.prog 13 #[sv, .slice (some ⟨pb, 0, none⟩) pl.length pcap] w fun e w' => e = .returned (.bool true) ∧ Below w.heap.size w w' := by
  have HF := hidden (law_first w)
  have HP := hidden hP; have HS := hidden hs; have HT := hidden ht; have HPL := hidden hp; have HAT := hidden hat
  obtain ⟨sa, sn, sc, hsv⟩ : ∃ a n c, sv = .slice a n c := by
    rcases hs with ⟨e, _⟩ | ⟨a, c, e, _⟩
    · exact ⟨_, _, _, e⟩
    · exact ⟨_, _, _, e⟩
  subst hsv
  clear hP hs ht hp hat
  go_enter Tryz.func13, Tryz.ntmps13
  go_wp2_with fail
  refine HF.out.mono ?_
  rintro e w1 ⟨rfl, hb1, htb1, hib1, hbel1⟩
  obtain ⟨fb, hfb⟩ : ∃ fb, fb = w.heap.size + 1 + 1 := ⟨_, rfl⟩
  rw [← hfb] at hb1
  rw [← hfb]
  obtain ⟨F7, hF7⟩ : ∃ F7, F7 = firstD w.heap.size (w.heap.size + 1) := ⟨_, rfl⟩
  have hP := HP.out w.heap.size (w.heap.size + 1)
  rw [← hF7] at hb1 hP
  have hlen7 : F7.length = 7 := by rw [hF7]; rfl
  have hhead : ∃ o r, F7 = o :: r ∧ o.k = 1 := by rw [hF7]; exact ⟨_, _, rfl, rfl⟩
  have hat7 : ∀ w2 : World, Chg (fun b => b = fb) w1 w2 → ∀ o ∈ F7, o.At w2.heap.size w2 := fun w2 hc o ho => by
    have k1 := htb1.chg hc (by omega)
    have k2 := hib1.chg hc (by omega)
    rw [hF7] at ho
    exact firstD_at k1 k2 k1.lt k2.lt o ho
  have HA7 := hidden hat7
  have hown : w1.ownsRow w.heap.size 86 7 (.slice (some ⟨fb, 0, none⟩) 7 7) 7 (opsC F7) := by
    refine ⟨by rw [opsC_len, hlen7], Or.inr ⟨fb, 7, _, rfl, by omega, hb1, Nat.le_refl _, by unfold maxLen; omega, ?_, ?_⟩⟩
    · simp [opsC_len, hlen7]
    · rw [List.toList_toArray]; exact List.take_of_length_le (by rw [opsC_len, hlen7]; omega)
  obtain ⟨i0, hi, hz0, hz1, hz2⟩ := info_parts Tryz.infoOp
  have HI := hidden (And.intro hi (And.intro hz0 (And.intro hz1 hz2)))
  have HO := hidden hown; have HB1 := hidden hbel1; have HPP := hidden hP; have H7 := hidden hlen7; have HH := hidden hhead
  have hs1 := hbel1.size
  clear HF HP hb1 htb1 hib1 hat7 hbel1 hown hP hlen7 hhead hi hz0 hz1 hz2 hF7 hfb
  obtain ⟨N, hN⟩ : ∃ N, N = 7 + ops.length := ⟨_, rfl⟩
  obtain ⟨all, hall⟩ : ∃ all, all = F7 ++ ops := ⟨_, rfl⟩
  have HN := hidden hN; have HALL := hidden hall
  clear hN hall
  rcases HS.out with ⟨hnil, hops⟩ | ⟨sa', sc', hsv, hcells⟩
  · obtain ⟨rfl, rfl, rfl⟩ : sa = none ∧ sn = 0 ∧ sc = 0 := by simpa using hnil
    have HN7 : Hid (N = 7 ∧ all = F7) := by
      refine ⟨?_, ?_⟩
      · rw [HN.out, hops]; rfl
      · rw [HALL.out, hops, List.append_nil]
    clear hnil hops HS
    go_wp2_with (at_builtin; refine wpList_append_none _ rfl _ _ 22 rfl 86 i0 Tryz.underlying22 HI.out.1 ⟨fb, 0, none⟩ 7 7 rfl (Nat.le_refl _) rfl ?_)
    obtain ⟨w2, hw2⟩ : ∃ w2 : World, w2 = w1 := ⟨_, rfl⟩
    obtain ⟨g, hg⟩ : ∃ g, g = fb := ⟨_, rfl⟩
    obtain ⟨cap, hcap⟩ : ∃ cap : Nat, cap = 7 := ⟨_, rfl⟩
    have HRW : Hid (w2.ownsRow w.heap.size 86 7 (.slice (some ⟨g, 0, none⟩) N cap) N (opsC all)) := by
      show World.ownsRow _ _ _ _ _ _ _
      rw [hw2, hg, hcap, HN7.out.1, HN7.out.2]; exact HO.out
    have HB2 : Hid (Below w.heap.size w w2) := by show Below _ _ _; rw [hw2]; exact HB1.out
    have HALT := hidden (show ∀ o ∈ all, o.At w2.heap.size w2 from fun o ho => by
      rw [HN7.out.2] at ho
      exact HA7.out w2 (by rw [hw2]; exact Chg.refl _ _) o ho)
    rw [← hw2, ← hg, show Value.slice (some ⟨g, 0, none⟩) 7 7 = Value.slice (some ⟨g, 0, none⟩) N cap by rw [hcap, HN7.out.1]]
    clear hw2 hg hcap HN7 HO HB1 HI HA7
    have hTab2 := HT.out.below HB2.out
    have hinit := HPP.out.init w2 hTab2
    obtain ⟨wb, hwb⟩ : ∃ wb, wb = w2.heap.size := ⟨_, rfl⟩
    obtain ⟨W0, hW0⟩ : ∃ W0 : World, W0 = w2.alloc (.cells #[.slice none 0 0, .slice none 0 0, .slice none 0 0, .slice none 0 0, .slice none 0 0] 84 (0, 0)) := ⟨_, rfl⟩
    have hin2 : St wb wb W0 0 0 := by rw [hW0, hwb]; exact hinit
    have hbW : Below wb w2 W0 := by rw [hW0, hwb]; exact (Below.refl _ _).alloc (Nat.le_refl _) _
    rw [← hW0, ← hwb]
    have HIN := hidden hin2; have HBW := hidden hbW; have HWB := hidden hwb
    have hwle : w.heap.size ≤ wb := by rw [hwb]; exact HB2.out.size
    have hNle : N ≤ 1100007 := by have := HN.out; omega
    have hglt : g < wb := by rw [hwb]; exact own_lt HRW.out rfl
    have hNcap : N ≤ cap := by
      obtain ⟨ad, cap', hv, h1, _⟩ := row_shape HRW.out
      simp at hv; omega
    have hlenall : Hid (all.length = N) := by show _ = _; rw [HALL.out, List.length_append, H7.out, HN.out]
    clear hTab2 hinit hin2 hbW hW0 hwb
    go_loopw [7] (fun i wr => ∃ k c m : Nat, k ≤ N ∧ i = .int .i64 k ∧ c ≤ k ∧ (1 ≤ k → 0 < m) ∧ Hid (St wb wb wr c m) ∧ Hid (Below wb w2 wr)) (fun i _ => N - (intOf i).toNat)
    case atStart => exact ⟨0, 0, 0, Nat.zero_le _, rfl, Nat.le_refl _, fun h => absurd h (by omega), HIN, HBW⟩
    case round =>
      clear HIN HBW
      obtain ⟨k, c, m, hk, rfl, hck, hm, HST, HBR⟩ := hrel
      by_cases hlt : k < N
      · have hli : (k : Int) < (N : Int) := by omega
        have hl0 : (0 : Int) ≤ (k : Int) := by omega
        have hl1 : (k : Int) ≤ 1100007 := by omega
        have hkall : k < all.length := by rw [hlenall.out]; exact hlt
        obtain ⟨o, ho⟩ : ∃ o, o = all[k] := ⟨_, rfl⟩
        have hmem : o ∈ F7 ++ ops := by rw [ho, ← HALL.out]; exact List.getElem_mem hkall
        obtain ⟨g', cap', hv, _, _, _, _, hcell⟩ := row_cells HRW.out (by omega)
        obtain ⟨rfl, rfl⟩ : g = g' ∧ cap = cap' := by simpa using hv
        have hcc : ∀ (j : Nat) (u : Value), j < 7 → o.cells[j]? = some u → wr.cell? ⟨g, k * 7 + j, none⟩ = some u := fun j u hj hu => by
          rw [HBR.out.cell (p := ⟨g, k * 7 + j, none⟩) hglt]
          refine hcell _ _ ?_
          unfold opsC
          rw [flat_get OpD.cells 7 (fun _ => rfl) all k j hkall hj, ← ho]; exact hu
        have q0 := hcc 0 _ (by omega) rfl; have q1 := hcc 1 _ (by omega) rfl; have q2 := hcc 2 _ (by omega) rfl; have q3 := hcc 3 _ (by omega) rfl; have q4 := hcc 4 _ (by omega) rfl; have q5 := hcc 5 _ (by omega) rfl; have q6 := hcc 6 _ (by omega) rfl
        rw [Nat.add_zero] at q0
        have hfirst : k = 0 → o.k = 1 := fun e => by
          obtain ⟨o', r, h1, h2⟩ := HH.out
          subst e
          have : all[0]? = some o' := by rw [HALL.out, h1]; rfl
          rw [List.getElem?_eq_getElem hkall] at this
          rw [ho, Option.some.inj this]; exact h2
        obtain ⟨X, hX⟩ : ∃ X : World, X = wr.alloc (.cells #[.int .i64 o.k, .int .i64 o.A, .int .i64 o.C, .string o.S, .slice o.a1 o.n1 o.c1, .slice o.a2 o.n2 o.c2, .slice o.a3 o.n3 o.c3] 86 (0, 0)) := ⟨_, rfl⟩
        obtain ⟨ob, hob⟩ : ∃ ob, ob = wr.heap.size := ⟨_, rfl⟩
        have hbX : Below wr.heap.size wr X := by rw [hX]; exact (Below.refl _ _).alloc (Nat.le_refl _) _
        have hkX : Blk X ob #[.int .i64 o.k, .int .i64 o.A, .int .i64 o.C, .string o.S, .slice o.a1 o.n1 o.c1, .slice o.a2 o.n2 o.c2, .slice o.a3 o.n3 o.c3] 86 := by rw [hX, hob]; exact blk_new wr _ _
        have hwbr : wb ≤ wr.heap.size := Nat.le_trans (by have := HWB.out; omega) HBR.out.size
        have hb2X : Below wb w2 X := HBR.out.trans (hbX.mono hwbr)
        have hpX : ∀ j (h : j < pl.length), X.cell? ⟨pb, j, none⟩ = some (.int .i64 pl[j]) := fun j h => by
          have hpw : pb < wb := Nat.lt_of_lt_of_le hpb hwle
          rw [hb2X.cell (p := ⟨pb, j, none⟩) hpw, HB2.out.cell (p := ⟨pb, j, none⟩) hpb]; exact HPL.out j h
        have HAM := hidden (law_among pb pcap pl o.k X (by omega) hpc hpX)
        have HSX := hidden (HPP.out.below wb wb wr X c m HST.out hbX)
        have x0 : X.cell? ⟨ob, 0, none⟩ = some (.int .i64 o.k) := hkX.cell 0 _ rfl
        have x1 : X.cell? ⟨ob, 1, none⟩ = some (.int .i64 o.A) := hkX.cell 1 _ rfl
        have x2 : X.cell? ⟨ob, 2, none⟩ = some (.int .i64 o.C) := hkX.cell 2 _ rfl
        have x3 : X.cell? ⟨ob, 3, none⟩ = some (.string o.S) := hkX.cell 3 _ rfl
        have x4 : X.cell? ⟨ob, 4, none⟩ = some (.slice o.a1 o.n1 o.c1) := hkX.cell 4 _ rfl
        have x5 : X.cell? ⟨ob, 5, none⟩ = some (.slice o.a2 o.n2 o.c2) := hkX.cell 5 _ rfl
        have x6 : X.cell? ⟨ob, 6, none⟩ = some (.slice o.a3 o.n3 o.c3) := hkX.cell 6 _ rfl
        have HX := hidden hX; have HOB := hidden hob; have HB2X := hidden hb2X; have HMEM := hidden hmem; have HFI := hidden hfirst
        obtain ⟨bi, hbi⟩ : ∃ bi, bi = pl.any (fun x => x == o.k) := ⟨_, rfl⟩
        rw [← hbi] at HAM
        have HBI := hidden hbi
        have hl2 : (k : Int) < 144115188075855872 := by omega
        have HNL := hidden hNle
        have HKK := hidden (And.intro hk (And.intro hck hlt))
        clear hv hcell hcc hbX hkX hb2X hpX hX hob hmem hfirst ho hbi hNle hk hck hlt hl1 hkall hwbr hn hl
        go_upto_region 8 with fail
        rw [← HX.out, ← HOB.out]
        clear q0 q1 q2 q3 q4 q5 q6
        go_wp2_with fail
        refine HAM.out.mono ?_
        rintro e w3 ⟨rfl, rfl⟩
        clear HAM
        cases bi with
        | false =>
          go_wp2_with fail
          go_roundw
          case rel =>
            obtain ⟨hk, hck, hlt⟩ := HKK.out
            refine ⟨k + 1, c, m, by omega, by go_num, by omega, fun _ => ?_, HSX, HB2X⟩
            rcases Nat.eq_zero_or_pos k with h0 | h0
            · exfalso
              have h1 := HFI.out h0
              have h2 := HBI.out
              rw [h1, HPP.out.one] at h2
              cases h2
            · exact hm h0
          case measure => obtain ⟨hk, hck, hlt⟩ := HKK.out; simp [intOf]; omega
        | true =>
          have HSTEP := hidden (HPP.out.step wb wb o HMEM.out HBI.out.symm w3 c m HSX.out (((HALT.out o (by rw [HALL.out]; exact HMEM.out)).mono (by have := HWB.out; omega)).below HB2X.out) (fun h1 => hm (by
            rcases Nat.eq_zero_or_pos k with h0 | h0
            · exact absurd (HFI.out h0) h1
            · exact h0)) (by have := HNL.out; obtain ⟨hk, hck, hlt⟩ := HKK.out; omega))
          go_wp2_with fail
          refine HSTEP.out.mono ?_
          rintro e w4 ⟨rfl, hb4, m', hst4, hmm, hm1⟩
          have HLO := hidden (HPP.out.looks wb wb w4 (c + 1) m' hst4 (by have := HNL.out; obtain ⟨hk, hck, hlt⟩ := HKK.out; omega))
          have HST4 := hidden hst4; have HB4 := hidden (HB2X.out.trans hb4); have HMM := hidden (And.intro hmm hm1)
          have hsz4 := (HPP.out.size wb wb w4 (c + 1) m' hst4).2
          clear HSTEP hb4 hst4 hmm hm1 x0 x1 x2 x3 x4 x5 x6
          go_wp2_with fail
          refine HLO.out.mono ?_
          rintro e w5 ⟨rfl, hb5⟩
          have HST5 := hidden (HPP.out.below wb wb w4 w5 (c + 1) m' HST4.out hb5)
          have HB5 := hidden (HB4.out.trans (hb5.mono (by omega)))
          clear HLO hb5
          go_wp2_with fail
          go_roundw
          case rel =>
            obtain ⟨hk, hck, hlt⟩ := HKK.out
            refine ⟨k + 1, c + 1, m', by omega, by go_num, by omega, fun _ => ?_, HST5, HB5⟩
            obtain ⟨h1, h2⟩ := HMM.out
            rcases Nat.eq_zero_or_pos k with h0 | h0
            · exact h2 (HFI.out h0)
            · exact Nat.lt_of_lt_of_le (hm h0) h1
          case measure => obtain ⟨hk, hck, hlt⟩ := HKK.out; simp [intOf]; omega
      · have hli : ¬ (k : Int) < (N : Int) := by omega
        go_wp2_with fail
        go_ret
        exact ⟨rfl, HB2.out.trans (HBR.out.mono hwle)⟩
  · obtain ⟨rfl, rfl, rfl⟩ : sa = some sa' ∧ sn = ops.length ∧ sc = sc' := by simpa using hsv
    have HCE := hidden (show ∀ j u, (opsC ops)[j]? = some u → w1.cell? (sa'.add j) = some u from fun j u hu => by
      have h1 := hcells j u hu
      have hlt := World.block_lt_of_cell? w _ h1
      rw [HB1.out.cell hlt]; exact h1)
    have HU := hidden (And.intro (opsC_len ops) (And.intro (opsC_one ops) (And.intro (show 7 + ops.length ≤ maxLen by unfold maxLen; omega) (show (7 + ops.length) * 112 ≤ 140737488355328 by omega))))
    clear hsv hcells HS
    go_wp2_with (at_builtin; refine wpList_append_keep _ rfl _ _ 22 rfl w.heap.size 86 i0 opz 7 112 Tryz.underlying22 HI.out.1 HI.out.2.1 HI.out.2.2.1 HI.out.2.2.2 rfl (by decide) (.slice (some ⟨fb, 0, none⟩) 7 7) 7 (opsC F7) rfl HO.out sa' ops.length sc (opsC ops) rfl HU.out.1 HCE.out HU.out.2.1 HU.out.2.2.1 HU.out.2.2.2 hs1 ?_)
    intro v' w2 hr2 hg2 hat2 _
    obtain ⟨g, cap, hv', _, _⟩ := hr2.form (by omega)
    subst hv'
    have HRW : Hid (w2.ownsRow w.heap.size 86 7 (.slice (some ⟨g, 0, none⟩) N cap) N (opsC all)) := by
      show World.ownsRow _ _ _ _ _ _ _
      rw [HN.out, HALL.out]
      have e : opsC (F7 ++ ops) = opsC F7 ++ opsC ops := by unfold opsC; rw [List.flatMap_append]
      rw [e]; exact hr2
    have HB2 : Hid (Below w.heap.size w w2) := HB1.out.grown hg2 hs1 (fun k hk => own_base HO.out hk)
    have HALT := hidden (show ∀ o ∈ all, o.At w2.heap.size w2 from fun o ho => by
      rw [HALL.out] at ho
      rcases List.mem_append.1 ho with ho | ho
      · exact HA7.out w2 ((Chg.ofGrown hg2).mono (fun b _ e => by simpa [Value.ownBlock] using e)) o ho
      · exact ((HAT.out o ho).below HB2.out).mono HB2.out.size)
    rw [show Value.slice (some ⟨g, 0, none⟩) (7 + ops.length) cap = Value.slice (some ⟨g, 0, none⟩) N cap by rw [HN.out]]
    clear hr2 hg2 hat2 HO HB1 HI HCE HU HA7
    go_wp2_with fail
    have hTab2 := HT.out.below HB2.out
    have hinit := HPP.out.init w2 hTab2
    obtain ⟨wb, hwb⟩ : ∃ wb, wb = w2.heap.size := ⟨_, rfl⟩
    obtain ⟨W0, hW0⟩ : ∃ W0 : World, W0 = w2.alloc (.cells #[.slice none 0 0, .slice none 0 0, .slice none 0 0, .slice none 0 0, .slice none 0 0] 84 (0, 0)) := ⟨_, rfl⟩
    have hin2 : St wb wb W0 0 0 := by rw [hW0, hwb]; exact hinit
    have hbW : Below wb w2 W0 := by rw [hW0, hwb]; exact (Below.refl _ _).alloc (Nat.le_refl _) _
    rw [← hW0, ← hwb]
    have HIN := hidden hin2; have HBW := hidden hbW; have HWB := hidden hwb
    have hwle : w.heap.size ≤ wb := by rw [hwb]; exact HB2.out.size
    have hNle : N ≤ 1100007 := by have := HN.out; omega
    have hglt : g < wb := by rw [hwb]; exact own_lt HRW.out rfl
    have hNcap : N ≤ cap := by
      obtain ⟨ad, cap', hv, h1, _⟩ := row_shape HRW.out
      simp at hv; omega
    have hlenall : Hid (all.length = N) := by show _ = _; rw [HALL.out, List.length_append, H7.out, HN.out]
    clear hTab2 hinit hin2 hbW hW0 hwb
    go_loopw [7] (fun i wr => ∃ k c m : Nat, k ≤ N ∧ i = .int .i64 k ∧ c ≤ k ∧ (1 ≤ k → 0 < m) ∧ Hid (St wb wb wr c m) ∧ Hid (Below wb w2 wr)) (fun i _ => N - (intOf i).toNat)
    case atStart => exact ⟨0, 0, 0, Nat.zero_le _, rfl, Nat.le_refl _, fun h => absurd h (by omega), HIN, HBW⟩
    case round =>
      clear HIN HBW
      obtain ⟨k, c, m, hk, rfl, hck, hm, HST, HBR⟩ := hrel
      by_cases hlt : k < N
      · have hli : (k : Int) < (N : Int) := by omega
        have hl0 : (0 : Int) ≤ (k : Int) := by omega
        have hl1 : (k : Int) ≤ 1100007 := by omega
        have hkall : k < all.length := by rw [hlenall.out]; exact hlt
        obtain ⟨o, ho⟩ : ∃ o, o = all[k] := ⟨_, rfl⟩
        have hmem : o ∈ F7 ++ ops := by rw [ho, ← HALL.out]; exact List.getElem_mem hkall
        obtain ⟨g', cap', hv, _, _, _, _, hcell⟩ := row_cells HRW.out (by omega)
        obtain ⟨rfl, rfl⟩ : g = g' ∧ cap = cap' := by simpa using hv
        have hcc : ∀ (j : Nat) (u : Value), j < 7 → o.cells[j]? = some u → wr.cell? ⟨g, k * 7 + j, none⟩ = some u := fun j u hj hu => by
          rw [HBR.out.cell (p := ⟨g, k * 7 + j, none⟩) hglt]
          refine hcell _ _ ?_
          unfold opsC
          rw [flat_get OpD.cells 7 (fun _ => rfl) all k j hkall hj, ← ho]; exact hu
        have q0 := hcc 0 _ (by omega) rfl; have q1 := hcc 1 _ (by omega) rfl; have q2 := hcc 2 _ (by omega) rfl; have q3 := hcc 3 _ (by omega) rfl; have q4 := hcc 4 _ (by omega) rfl; have q5 := hcc 5 _ (by omega) rfl; have q6 := hcc 6 _ (by omega) rfl
        rw [Nat.add_zero] at q0
        have hfirst : k = 0 → o.k = 1 := fun e => by
          obtain ⟨o', r, h1, h2⟩ := HH.out
          subst e
          have : all[0]? = some o' := by rw [HALL.out, h1]; rfl
          rw [List.getElem?_eq_getElem hkall] at this
          rw [ho, Option.some.inj this]; exact h2
        obtain ⟨X, hX⟩ : ∃ X : World, X = wr.alloc (.cells #[.int .i64 o.k, .int .i64 o.A, .int .i64 o.C, .string o.S, .slice o.a1 o.n1 o.c1, .slice o.a2 o.n2 o.c2, .slice o.a3 o.n3 o.c3] 86 (0, 0)) := ⟨_, rfl⟩
        obtain ⟨ob, hob⟩ : ∃ ob, ob = wr.heap.size := ⟨_, rfl⟩
        have hbX : Below wr.heap.size wr X := by rw [hX]; exact (Below.refl _ _).alloc (Nat.le_refl _) _
        have hkX : Blk X ob #[.int .i64 o.k, .int .i64 o.A, .int .i64 o.C, .string o.S, .slice o.a1 o.n1 o.c1, .slice o.a2 o.n2 o.c2, .slice o.a3 o.n3 o.c3] 86 := by rw [hX, hob]; exact blk_new wr _ _
        have hwbr : wb ≤ wr.heap.size := Nat.le_trans (by have := HWB.out; omega) HBR.out.size
        have hb2X : Below wb w2 X := HBR.out.trans (hbX.mono hwbr)
        have hpX : ∀ j (h : j < pl.length), X.cell? ⟨pb, j, none⟩ = some (.int .i64 pl[j]) := fun j h => by
          have hpw : pb < wb := Nat.lt_of_lt_of_le hpb hwle
          rw [hb2X.cell (p := ⟨pb, j, none⟩) hpw, HB2.out.cell (p := ⟨pb, j, none⟩) hpb]; exact HPL.out j h
        have HAM := hidden (law_among pb pcap pl o.k X (by omega) hpc hpX)
        have HSX := hidden (HPP.out.below wb wb wr X c m HST.out hbX)
        have x0 : X.cell? ⟨ob, 0, none⟩ = some (.int .i64 o.k) := hkX.cell 0 _ rfl
        have x1 : X.cell? ⟨ob, 1, none⟩ = some (.int .i64 o.A) := hkX.cell 1 _ rfl
        have x2 : X.cell? ⟨ob, 2, none⟩ = some (.int .i64 o.C) := hkX.cell 2 _ rfl
        have x3 : X.cell? ⟨ob, 3, none⟩ = some (.string o.S) := hkX.cell 3 _ rfl
        have x4 : X.cell? ⟨ob, 4, none⟩ = some (.slice o.a1 o.n1 o.c1) := hkX.cell 4 _ rfl
        have x5 : X.cell? ⟨ob, 5, none⟩ = some (.slice o.a2 o.n2 o.c2) := hkX.cell 5 _ rfl
        have x6 : X.cell? ⟨ob, 6, none⟩ = some (.slice o.a3 o.n3 o.c3) := hkX.cell 6 _ rfl
        have HX := hidden hX; have HOB := hidden hob; have HB2X := hidden hb2X; have HMEM := hidden hmem; have HFI := hidden hfirst
        obtain ⟨bi, hbi⟩ : ∃ bi, bi = pl.any (fun x => x == o.k) := ⟨_, rfl⟩
        rw [← hbi] at HAM
        have HBI := hidden hbi
        have hl2 : (k : Int) < 144115188075855872 := by omega
        have HNL := hidden hNle
        have HKK := hidden (And.intro hk (And.intro hck hlt))
        clear hv hcell hcc hbX hkX hb2X hpX hX hob hmem hfirst ho hbi hNle hk hck hlt hl1 hkall hwbr hn hl
        go_upto_region 8 with fail
        rw [← HX.out, ← HOB.out]
        clear q0 q1 q2 q3 q4 q5 q6
        go_wp2_with fail
        refine HAM.out.mono ?_
        rintro e w3 ⟨rfl, rfl⟩
        clear HAM
        cases bi with
        | false =>
          go_wp2_with fail
          go_roundw
          case rel =>
            obtain ⟨hk, hck, hlt⟩ := HKK.out
            refine ⟨k + 1, c, m, by omega, by go_num, by omega, fun _ => ?_, HSX, HB2X⟩
            rcases Nat.eq_zero_or_pos k with h0 | h0
            · exfalso
              have h1 := HFI.out h0
              have h2 := HBI.out
              rw [h1, HPP.out.one] at h2
              cases h2
            · exact hm h0
          case measure => obtain ⟨hk, hck, hlt⟩ := HKK.out; simp [intOf]; omega
        | true =>
          have HSTEP := hidden (HPP.out.step wb wb o HMEM.out HBI.out.symm w3 c m HSX.out (((HALT.out o (by rw [HALL.out]; exact HMEM.out)).mono (by have := HWB.out; omega)).below HB2X.out) (fun h1 => hm (by
            rcases Nat.eq_zero_or_pos k with h0 | h0
            · exact absurd (HFI.out h0) h1
            · exact h0)) (by have := HNL.out; obtain ⟨hk, hck, hlt⟩ := HKK.out; omega))
          go_wp2_with fail
          refine HSTEP.out.mono ?_
          rintro e w4 ⟨rfl, hb4, m', hst4, hmm, hm1⟩
          have HLO := hidden (HPP.out.looks wb wb w4 (c + 1) m' hst4 (by have := HNL.out; obtain ⟨hk, hck, hlt⟩ := HKK.out; omega))
          have HST4 := hidden hst4; have HB4 := hidden (HB2X.out.trans hb4); have HMM := hidden (And.intro hmm hm1)
          have hsz4 := (HPP.out.size wb wb w4 (c + 1) m' hst4).2
          clear HSTEP hb4 hst4 hmm hm1 x0 x1 x2 x3 x4 x5 x6
          go_wp2_with fail
          refine HLO.out.mono ?_
          rintro e w5 ⟨rfl, hb5⟩
          have HST5 := hidden (HPP.out.below wb wb w4 w5 (c + 1) m' HST4.out hb5)
          have HB5 := hidden (HB4.out.trans (hb5.mono (by omega)))
          clear HLO hb5
          go_wp2_with fail
          go_roundw
          case rel =>
            obtain ⟨hk, hck, hlt⟩ := HKK.out
            refine ⟨k + 1, c + 1, m', by omega, by go_num, by omega, fun _ => ?_, HST5, HB5⟩
            obtain ⟨h1, h2⟩ := HMM.out
            rcases Nat.eq_zero_or_pos k with h0 | h0
            · exact h2 (HFI.out h0)
            · exact Nat.lt_of_lt_of_le (hm h0) h1
          case measure => obtain ⟨hk, hck, hlt⟩ := HKK.out; simp [intOf]; omega
      · have hli : ¬ (k : Int) < (N : Int) := by omega
        go_wp2_with fail
        go_ret
        exact ⟨rfl, HB2.out.trans (HBR.out.mono hwle)⟩

end Go.Proofs.YtcphhbofjkenaaaGreatDoor
