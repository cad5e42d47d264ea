/- The law's small functions. -/
import Derived.Laws.BytesArg
import Derived.Test.YtcphhbofjkenaaaGreatDoorM00
import Derived.Test.YtcphhbofjkenaaaGreatDoorM34
import Derived.Test.YtcphhbofjkenaaaGreatDoorM39

namespace Go.Proofs.YtcphhbofjkenaaaGreatDoor
open Go Go.RowKit
set_option linter.unusedVariables false
set_option linter.unusedSimpArgs false

/-- Which of n things a raw number speaks of. -/
def pickS (c n : Int) : Int := if c < 0 then -((c + 1).tmod n) else c % n
theorem pickS_bd (c n : Int) (hn : 0 < n) : 0 ≤ pickS c n ∧ pickS c n < n := by
  unfold pickS
  split
  · rename_i h
    have e : -((c + 1).tmod n) = (-(c + 1)) % n := by
      rw [← Int.neg_tmod, Int.tmod_eq_emod_of_nonneg (by omega)]
    rw [e]
    exact ⟨Int.emod_nonneg _ (by omega), Int.emod_lt_of_pos _ hn⟩
  · exact ⟨Int.emod_nonneg _ (by omega), Int.emod_lt_of_pos _ hn⟩

set_option maxHeartbeats 2000000 in
theorem law_pick (c n : Int) (w : World) (hn : 0 < n) (hn2 : n ≤ 1000000000) (h0 : -9223372036854775808 ≤ c) (h1 : c ≤ 9223372036854775807) :
    Calls Tryz.prog 63 #[.int .i64 c, .int .i64 n] w fun e w' => e = .returned (.int .i64 (pickS c n)) ∧ w' = w := by
  by_cases hc : c < 0
  · have e : pickS c n = -((c + 1).tmod n) := by unfold pickS; rw [if_pos hc]
    rw [e]
    clear e
    go_enter Tryz.func63, Tryz.ntmps63
    go_wp2
    go_ret
    exact ⟨rfl, rfl⟩
  · have e : pickS c n = c % n := by unfold pickS; rw [if_neg hc]
    rw [e]
    clear e
    have hc' : 0 ≤ c := by omega
    go_enter Tryz.func63, Tryz.ntmps63
    go_wp2
    go_ret
    exact ⟨rfl, rfl⟩

/-- The text of the n-th list, fuel first. -/
def markG : Nat → Nat → ByteArray → ByteArray
  | 0, _, s => s
  | f + 1, k, s => if 0 < k then markG f (k / 2) (s ++ strOfNums [48 + (k : Int) % 2]) else s
def markS (q : Nat) : ByteArray := markG (q + 1) q ⟨#[109]⟩

theorem one_size (x : Int) : (strOfNums [x]).size = 1 := rfl

set_option maxRecDepth 100000 in
set_option maxHeartbeats 2000000 in
theorem law_mark (n : Nat) (w : World) (hn : n ≤ 1000000000) :
    Calls Tryz.prog 70 #[.int .i64 n] w fun e w' => e = .returned (.string (markS (n / 4))) ∧ Below w.heap.size w w' := by
  obtain ⟨R, hR⟩ : ∃ R, R = markS (n / 4) := ⟨_, rfl⟩
  rw [← hR]
  have HR := hidden hR
  clear hR
  go_enter Tryz.func70, Tryz.ntmps70
  go_wp2
  go_loopw [3, 4] (fun s k wr => ∃ (x : ByteArray) (j f : Nat), s = .string x ∧ k = .int .i64 j ∧ Hid (R = markG f j x) ∧ Hid (j < f ∧ f ≤ 1000000001 ∧ x.size + f ≤ 1000000005) ∧ Hid (Below w.heap.size w wr)) (fun _ k _ => (intOf k).toNat)
  case atStart => exact ⟨_, n / 4, n / 4 + 1, rfl, by go_num, HR, ⟨by omega, by omega, by have : (ByteArray.mk #[109]).size = 1 := rfl; omega⟩, Below.refl _ _⟩
  case round =>
    clear HR
    obtain ⟨x, j, f, rfl, rfl, HRR, HF, HB⟩ := hrel
    obtain ⟨f1, f2, f3⟩ := HF.out
    obtain ⟨f, rfl⟩ : ∃ f', f = f' + 1 := ⟨f - 1, by omega⟩
    by_cases h0 : 0 < j
    · have hj0 : (0 : Int) < (j : Int) := by omega
      have hj1 : (j : Int) ≤ 1000000000 := by omega
      have hcv := run_convert_bytes_arg (P := Tryz.prog) (wr.alloc (Obj.cells #[Value.int .u8 (48 + (j : Int) % 2)] 5)) 93 5 Tryz.underlying93 Tryz.underlying5 wr.heap.size 0 1 1 [48 + (j : Int) % 2] rfl (fun i hi => by
        obtain rfl : i = 0 := by omega
        simp) 9 Tryz.underlying9
      have hz : ¬ 9223372036854775807 < x.size + (strOfNums [48 + (j : Int) % 2]).size := by rw [one_size]; omega
      have hsz := hidden (one_size (48 + (j : Int) % 2))
      have hrr := HRR.out
      rw [markG, if_pos h0] at hrr
      have HR2 := hidden hrr
      clear hrr HRR f1 f2 f3
      go_wp2
      go_roundw
      case rel =>
        obtain ⟨f1, f2, f3⟩ := HF.out
        refine ⟨_, j / 2, f, rfl, by go_num, HR2, ⟨by omega, by omega, ?_⟩, HB.out.alloc HB.out.size _⟩
        rw [ByteArray.size_append, hsz.out]; omega
      case measure => simp [intOf]; omega
    · obtain rfl : j = 0 := by omega
      have hrr := HRR.out
      rw [markG, if_neg (by omega)] at hrr
      have HR2 := hidden hrr
      clear hrr HRR f1 f2 f3
      go_wp2
      rw [HR2.out]
      go_ret
      exact ⟨rfl, HB.out⟩

set_option maxHeartbeats 2000000 in
theorem law_among (b : Nat) (cap : Nat) (l : List Int) (k : Int) (w : World) (hl : l.length ≤ 100) (hcap : l.length ≤ cap) (hc : ∀ j (h : j < l.length), w.cell? ⟨b, j, none⟩ = some (.int .i64 l[j])) :
    Calls Tryz.prog 34 #[.slice (some ⟨b, 0, none⟩) l.length cap, .int .i64 k] w fun e w' => e = .returned (.bool (l.any (fun x => x == k))) ∧ w' = w := by
  obtain ⟨r, hr⟩ : ∃ r, r = l.any (fun x => x == k) := ⟨_, rfl⟩
  rw [← hr]
  have HC : Hid _ := hc
  clear hc
  go_enter Tryz.func34, Tryz.ntmps34
  go_wp2
  go_loop [5] (fun i => ∃ j : Nat, j ≤ l.length ∧ i = .int .i64 j ∧ Hid (∀ x (h : x < l.length), x < j → (l[x] == k) = false)) (fun i => l.length - (intOf i).toNat)
  case atStart => exact ⟨0, Nat.zero_le _, rfl, fun x h h' => by omega⟩
  case round =>
    obtain ⟨j, hj, rfl, HJ⟩ := hrel
    by_cases hlt : j < l.length
    · obtain ⟨x, hx⟩ : ∃ x, x = l[j] := ⟨_, rfl⟩
      have hcx : w.cell? ⟨b, j, none⟩ = some (.int .i64 x) := by rw [hx]; exact HC.out j hlt
      by_cases he : (x == k) = true
      · have HR : Hid (r = true) := by
          show r = true
          rw [hr, List.any_eq_true]
          exact ⟨l[j], List.getElem_mem hlt, by rw [← hx]; exact he⟩
        clear hr hx
        go_wp2
        go_ret
        exact ⟨ret_bool HR.out.symm, rfl⟩
      · have he' : (x == k) = false := by simpa using he
        have HX : Hid (x = l[j]) := hx
        clear hx he
        go_wp2
        go_round
        case rel =>
          refine ⟨j + 1, by omega, by go_num, fun y hy hy' => ?_⟩
          by_cases e : y = j
          · subst e; rw [← HX.out]; exact he'
          · exact HJ.out y hy (by omega)
        case measure => simp [intOf]; omega
    · have HR : Hid (r = false) := by
        show r = false
        rw [hr, List.any_eq_false]
        intro y hy
        obtain ⟨k, hk, rfl⟩ := List.getElem_of_mem hy
        have := HJ.out k hk (by omega)
        simpa using this
      clear hr
      go_wp2
      go_ret
      exact ⟨ret_bool HR.out.symm, rfl⟩

end Go.Proofs.YtcphhbofjkenaaaGreatDoor

/- The law: four books of lists that came out, each list of one thing again and again. -/
namespace Go.Proofs.YtcphhbofjkenaaaGreatDoor
open Go Go.RowKit
set_option linter.unusedVariables false
set_option linter.unusedSimpArgs false

/-- The type of a book's lists, of a list's things; the cells of one; the mark of the q-th list. -/
def bLt : Nat → TypeId
  | 0 => 71
  | 1 => 24
  | 2 => 57
  | _ => 60
def bEt : Nat → TypeId
  | 0 => 9
  | 1 => 3
  | 2 => 133
  | _ => 69
def bSz : Nat → Nat
  | 0 => 1
  | 1 => 1
  | 2 => 3
  | _ => 4
def bPat : Nat → Nat → List Value
  | 0, q => [.string (markS q)]
  | 1, q => [.int .i64 (-1000 - (q : Int))]
  | 2, q => [.int .i64 (-1000 - (q : Int)), .int .i64 0, .int .i64 0]
  | _, q => [.int .i64 (-1000 - (q : Int)), .int .i64 0, .int .i64 0, .int .i64 0]

/-- A list of the mark of the q-th. -/
def MarkedJ (j B : Nat) (w : World) (u : Value) (q : Nat) : Prop := ∃ k, k ≤ 3000000 ∧ w.ownsRow B (bEt j) (bSz j) u k (pats (bPat j q) k)
theorem MarkedJ.chg {j B : Nat} {S : Nat → Prop} {w w' : World} {u : Value} {q : Nat} (h : MarkedJ j B w u q) (hc : Chg S w w') (hs : ∀ k, u.ownBlock = some k → ¬ S k) : MarkedJ j B w' u q := by
  obtain ⟨k, hk, hr⟩ := h
  exact ⟨k, hk, ownsRow_chg hr hc hs⟩
theorem MarkedJ.lt {j B : Nat} {w : World} {u : Value} {q : Nat} (h : MarkedJ j B w u q) {b : Nat} (hb : u.ownBlock = some b) : b < w.heap.size := by
  obtain ⟨k, hk, hr⟩ := h
  exact own_lt hr hb
theorem MarkedJ.base {j B : Nat} {w : World} {u : Value} {q : Nat} (h : MarkedJ j B w u q) {b : Nat} (hb : u.ownBlock = some b) : B ≤ b := by
  obtain ⟨k, hk, hr⟩ := h
  exact own_base hr hb

/-- The four rows of lists that came out. -/
structure B4 where
  n : Value
  i : Value
  p : Value
  e : Value
def B4.get (b : B4) : Nat → Value
  | 0 => b.n
  | 1 => b.i
  | 2 => b.p
  | _ => b.e
def B4.set (b : B4) (j : Nat) (v : Value) : B4 :=
  match j with
  | 0 => { b with n := v }
  | 1 => { b with i := v }
  | 2 => { b with p := v }
  | _ => { b with e := v }
/-- The lists themselves. -/
structure G4 where
  n : List Value
  i : List Value
  p : List Value
  e : List Value
def G4.get (b : G4) : Nat → List Value
  | 0 => b.n
  | 1 => b.i
  | 2 => b.p
  | _ => b.e
def G4.set (b : G4) (j : Nat) (v : List Value) : G4 :=
  match j with
  | 0 => { b with n := v }
  | 1 => { b with i := v }
  | 2 => { b with p := v }
  | _ => { b with e := v }
def G4.none : G4 := ⟨[], [], [], []⟩

theorem four_cases {p : Nat → Prop} (h0 : p 0) (h1 : p 1) (h2 : p 2) (h3 : p 3) : ∀ j, j < 4 → p j
  | 0, _ => h0
  | 1, _ => h1
  | 2, _ => h2
  | 3, _ => h3
  | n + 4, h => by omega
theorem B4.get_set (b : B4) (v : Value) : ∀ j, j < 4 → ∀ k, k < 4 → (b.set j v).get k = if k = j then v else b.get k :=
  four_cases (four_cases rfl rfl rfl rfl) (four_cases rfl rfl rfl rfl) (four_cases rfl rfl rfl rfl) (four_cases rfl rfl rfl rfl)
theorem G4.get_set (b : G4) (v : List Value) : ∀ j, j < 4 → ∀ k, k < 4 → (b.set j v).get k = if k = j then v else b.get k :=
  four_cases (four_cases rfl rfl rfl rfl) (four_cases rfl rfl rfl rfl) (four_cases rfl rfl rfl rfl) (four_cases rfl rfl rfl rfl)
theorem lt_et : ∀ j, j < 4 → ∀ k, k < 4 → bLt j ≠ bEt k :=
  four_cases (four_cases (by decide) (by decide) (by decide) (by decide)) (four_cases (by decide) (by decide) (by decide) (by decide)) (four_cases (by decide) (by decide) (by decide) (by decide)) (four_cases (by decide) (by decide) (by decide) (by decide))
theorem lt_lt : ∀ j, j < 4 → ∀ k, k < 4 → j ≠ k → bLt j ≠ bLt k :=
  four_cases (four_cases (by decide) (by decide) (by decide) (by decide)) (four_cases (by decide) (by decide) (by decide) (by decide)) (four_cases (by decide) (by decide) (by decide) (by decide)) (four_cases (by decide) (by decide) (by decide) (by decide))
theorem et_et : ∀ j, j < 4 → ∀ k, k < 4 → j ≠ k → bEt j ≠ bEt k :=
  four_cases (four_cases (by decide) (by decide) (by decide) (by decide)) (four_cases (by decide) (by decide) (by decide) (by decide)) (four_cases (by decide) (by decide) (by decide) (by decide)) (four_cases (by decide) (by decide) (by decide) (by decide))
theorem lt_ty : ∀ j, j < 4 → bLt j ≠ 84 ∧ bEt j ≠ 84 ∧ bLt j ≠ 143 ∧ bEt j ≠ 143 :=
  four_cases (by decide) (by decide) (by decide) (by decide)

/-- Where the lists lie, and the rows of them. -/
def bookF (bk : B4) (G : G4) (b : Nat) : Prop := ∃ j, j < 4 ∧ ((bk.get j).ownBlock = some b ∨ ∃ (i : Nat) (u : Value), (G.get j)[i]? = some u ∧ u.ownBlock = some b)

structure BookA (B : Nat) (w : World) (bk : B4) (G : G4) : Prop where
  row : ∀ j, j < 4 → w.ownsRow B (bLt j) 1 (bk.get j) (G.get j).length (G.get j)
  mrk : ∀ j, j < 4 → ∀ (i : Nat) (u : Value), (G.get j)[i]? = some u → MarkedJ j B w u (i / 4)
  four : ∀ j, j < 4 → (G.get j).length % 4 = 0

theorem BookA.chg {B : Nat} {S : Nat → Prop} {w w' : World} {bk : B4} {G : G4} (h : BookA B w bk G) (hc : Chg S w w') (hs : ∀ k, bookF bk G k → ¬ S k) : BookA B w' bk G :=
  ⟨fun j hj => ownsRow_chg (h.row j hj) hc (fun k hk => hs k ⟨j, hj, Or.inl hk⟩), fun j hj i u hu => (h.mrk j hj i u hu).chg hc (fun k hk => hs k ⟨j, hj, Or.inr ⟨i, u, hu, hk⟩⟩), h.four⟩
theorem BookA.below {B : Nat} {w w' : World} {bk : B4} {G : G4} (h : BookA B w bk G) (hb : Below w.heap.size w w') : BookA B w' bk G :=
  h.chg (Chg.ofBelow (S := fun _ => False) hb) (fun _ _ => id)
theorem BookA.lt {B : Nat} {w : World} {bk : B4} {G : G4} (h : BookA B w bk G) {b : Nat} (hb : bookF bk G b) : b < w.heap.size := by
  obtain ⟨j, hj, hb | ⟨i, u, hu, hb⟩⟩ := hb
  · exact own_lt (h.row j hj) hb
  · exact (h.mrk j hj i u hu).lt hb
theorem BookA.base {B : Nat} {w : World} {bk : B4} {G : G4} (h : BookA B w bk G) {b : Nat} (hb : bookF bk G b) : B ≤ b := by
  obtain ⟨j, hj, hb | ⟨i, u, hu, hb⟩⟩ := hb
  · exact own_base (h.row j hj) hb
  · exact (h.mrk j hj i u hu).base hb

/-- What lies in the block of the law's world. -/
def lwC (lv nv iv pv ev : Value) : Array Value := #[lv, nv, iv, pv, ev]
def lwB (lv : Value) (b : B4) : Array Value := lwC lv b.n b.i b.p b.e

/-- What the caller's writing into a list that came out leaves. -/
def KeepPost (j B : Nat) (w : World) (wb : Nat) (lv : Value) (bk : B4) (gs : List Value) (u0 : Value) (e : Ending) (w' : World) : Prop :=
  e = .returned (.tuple #[]) ∧ ∃ nv' u1 u2 u3, Blk w' wb (lwB lv (bk.set j nv')) 84 ∧ w'.ownsRow B (bLt j) 1 nv' (gs.length + 4) (gs ++ [u0, u1, u2, u3]) ∧
    MarkedJ j B w' u0 (gs.length / 4) ∧ MarkedJ j B w' u1 (gs.length / 4) ∧ MarkedJ j B w' u2 (gs.length / 4) ∧ MarkedJ j B w' u3 (gs.length / 4) ∧
    (∀ u, (u = u1 ∨ u = u2 ∨ u = u3) → ∀ k, u.ownBlock = some k → u0.ownBlock = some k ∨ w.heap.size ≤ k) ∧ Lc w (bk.get j) nv' ∧ Chg (fun b => b = wb ∨ u0.ownBlock = some b ∨ (bk.get j).ownBlock = some b) w w'

theorem snoc4 {gs : List Value} {a b c d : Value} {j : Nat} {u : Value} (hu : (gs ++ [a, b, c, d])[j]? = some u) : (j < gs.length ∧ gs[j]? = some u) ∨ (gs.length ≤ j ∧ j < gs.length + 4 ∧ (u = a ∨ u = b ∨ u = c ∨ u = d)) := by
  by_cases hj : j < gs.length
  · rw [List.getElem?_append_left hj] at hu; exact Or.inl ⟨hj, hu⟩
  · rw [List.getElem?_append_right (by omega)] at hu
    refine Or.inr ⟨by omega, ?_, ?_⟩
    · have := (List.getElem?_eq_some_iff.1 hu).1; simp at this; omega
    · have hm := List.mem_of_getElem? hu
      simpa using hm

/-- The book has turned so. -/
theorem BookA.keeps {j B : Nat} {w w' : World} {wb : Nat} {lv : Value} {bk : B4} {G : G4} {u0 : Value} {e : Ending} (h : BookA B w bk G) (hj : j < 4) (hwb : Blk w wb (lwB lv bk) 84)
    (hu : ∀ b, u0.ownBlock = some b → ¬ bookF bk G b ∧ b < w.heap.size) (hp : KeepPost j B w wb lv bk (G.get j) u0 e w') :
    ∃ bk' G', bk' = bk.set j (bk'.get j) ∧ BookA B w' bk' G' ∧ Blk w' wb (lwB lv bk') 84 ∧ G' = G.set j (G'.get j) ∧ (G'.get j).length = (G.get j).length + 4 ∧ (∀ b, bookF bk' G' b → bookF bk G b ∨ u0.ownBlock = some b ∨ w.heap.size ≤ b) := by
  obtain ⟨_, nv', u1, u2, u3, hb, hr, m0, m1, m2, m3, hown, hlc, hc⟩ := hp
  have hget : (bk.set j nv').get j = nv' := by rw [B4.get_set bk nv' j hj j hj, if_pos rfl]
  have hgetG : (G.set j (G.get j ++ [u0, u1, u2, u3])).get j = G.get j ++ [u0, u1, u2, u3] := by rw [G4.get_set G _ j hj j hj, if_pos rfl]
  have ht := lt_ty j hj
  have oth : ∀ k, k < 4 → k ≠ j → ((bk.set j nv').get k = bk.get k ∧ (G.set j (G.get j ++ [u0, u1, u2, u3])).get k = G.get k) := fun k hk hne => by
    rw [B4.get_set bk nv' j hj k hk, G4.get_set G _ j hj k hk, if_neg hne, if_neg hne]; exact ⟨rfl, rfl⟩
  have rowS : ∀ k, k < 4 → k ≠ j → ∀ b, (bk.get k).ownBlock = some b → ¬ (b = wb ∨ u0.ownBlock = some b ∨ (bk.get j).ownBlock = some b) := fun k hk hne b hb' e => by
    rcases e with e | e | e
    · subst e; exact own_blk (h.row k hk) hwb (Ne.symm (lt_ty k hk).1) hb'
    · exact (hu b e).1 ⟨k, hk, Or.inl hb'⟩
    · exact own_own (h.row k hk) (h.row j hj) (lt_lt k hk j hj hne) hb' e
  have mrkS : ∀ k, k < 4 → ∀ (i : Nat) (u : Value), (G.get k)[i]? = some u → ∀ b, u.ownBlock = some b → ¬ (b = wb ∨ u0.ownBlock = some b ∨ (bk.get j).ownBlock = some b) := fun k hk i u hu' b hb' e => by
    obtain ⟨kk, _, hrr⟩ := h.mrk k hk i u hu'
    rcases e with e | e | e
    · subst e; exact own_blk hrr hwb (Ne.symm (lt_ty k hk).2.1) hb'
    · exact (hu b e).1 ⟨k, hk, Or.inr ⟨i, u, hu', hb'⟩⟩
    · exact own_own hrr (h.row j hj) (fun e' => lt_et j hj k hk e'.symm) hb' e
  refine ⟨bk.set j nv', G.set j (G.get j ++ [u0, u1, u2, u3]), by rw [hget], ⟨fun k hk => ?_, fun k hk i u hu' => ?_, fun k hk => ?_⟩, hb, by rw [hgetG], by rw [hgetG]; simp, ?_⟩
  · by_cases hne : k = j
    · subst hne; rw [hget, hgetG]; have := hr; simpa using this
    · rw [(oth k hk hne).1, (oth k hk hne).2]; exact ownsRow_chg (h.row k hk) hc (rowS k hk hne)
  · by_cases hne : k = j
    · subst hne
      rw [hgetG] at hu'
      rcases snoc4 hu' with ⟨_, hx⟩ | ⟨j1, j2, hx⟩
      · exact (h.mrk k hk i u hx).chg hc (mrkS k hk i u hx)
      · have hq : i / 4 = (G.get k).length / 4 := by have := h.four k hk; omega
        rw [hq]
        rcases hx with rfl | rfl | rfl | rfl <;> assumption
    · rw [(oth k hk hne).2] at hu'; exact (h.mrk k hk i u hu').chg hc (mrkS k hk i u hu')
  · by_cases hne : k = j
    · subst hne; rw [hgetG]; have := h.four k hk; simp; omega
    · rw [(oth k hk hne).2]; exact h.four k hk
  · rintro b ⟨k, hk, hb' | ⟨i, u, hu', hb'⟩⟩
    · by_cases hne : k = j
      · subst hne; rw [hget] at hb'
        rcases hlc b hb' with e | e
        · exact Or.inl ⟨k, hk, Or.inl e⟩
        · exact Or.inr (Or.inr e)
      · rw [(oth k hk hne).1] at hb'; exact Or.inl ⟨k, hk, Or.inl hb'⟩
    · by_cases hne : k = j
      · subst hne
        rw [hgetG] at hu'
        rcases snoc4 hu' with ⟨_, hx⟩ | ⟨j1, j2, hx⟩
        · exact Or.inl ⟨k, hk, Or.inr ⟨i, u, hx, hb'⟩⟩
        · rcases hx with rfl | hx
          · exact Or.inr (Or.inl hb')
          · exact Or.inr (hown u hx b hb')
      · rw [(oth k hk hne).2] at hu'; exact Or.inl ⟨k, hk, Or.inr ⟨i, u, hu', hb'⟩⟩

end Go.Proofs.YtcphhbofjkenaaaGreatDoor
