import Derived.Below
import Derived.Lib.DecodeN
import Derived.Lib.RuneCount
import Derived.Lib.Strings
import Derived.Maps.AppendAt
namespace Go.Proofs.YtcphhbofjkenaaaGreatDoor
open Go
def byt (s : ByteArray) (i : Nat) : Nat := (s.get! i).toNat
theorem byt_lt (s : ByteArray) (i : Nat) : byt s i < 256 := (s.get! i).toNat_lt
theorem byt_eq (s : ByteArray) (i : Nat) (h : i < s.size) : s[i].toNat = byt s i := by
 simp [byt, ByteArray.get!, getElem!_pos, h]; rfl
def wd (s : ByteArray) (i : Nat) : Nat := if byt s i < 128 then 1 else if (Utf8.decode s i).2 = 1 then 0 else (Utf8.decode s i).2
def Cls (b n lo hi : Nat) : Prop :=
 (194 ≤ b ∧ b < 224 ∧ n = 2 ∧ lo = 128 ∧ hi = 191) ∨ (b = 224 ∧ n = 3 ∧ lo = 160 ∧ hi = 191) ∨
 (((225 ≤ b ∧ b < 237) ∨ (238 ≤ b ∧ b < 240)) ∧ n = 3 ∧ lo = 128 ∧ hi = 191) ∨ (b = 237 ∧ n = 3 ∧ lo = 128 ∧ hi = 159) ∨
 (b = 240 ∧ n = 4 ∧ lo = 144 ∧ hi = 191) ∨ (241 ≤ b ∧ b < 244 ∧ n = 4 ∧ lo = 128 ∧ hi = 191) ∨ (b = 244 ∧ n = 4 ∧ lo = 128 ∧ hi = 143)
theorem Cls.n2 {b n lo hi : Nat} (h : Cls b n lo hi) : 2 ≤ n ∧ n ≤ 4 ∧ 128 ≤ b := by unfold Cls at h; omega
theorem decode_cls (s : ByteArray) (i n lo hi : Nat) (hi' : i < s.size) (h : Cls (byt s i) n lo hi) :
  Utf8.decode s i = Lib.slowN (s.size - i) (byt s i) (byt s (i + 1)) (byt s (i + 2)) (byt s (i + 3)) n lo hi := by
 rw [Lib.decode_at]
 have b1 := byt_lt s (i + 1); have b2 := byt_lt s (i + 2); have b3 := byt_lt s (i + 3)
 have hn : 1 ≤ s.size - i := by omega
 show Lib.decodeN (s.size - i) (byt s i) (byt s (i + 1)) (byt s (i + 2)) (byt s (i + 3)) = _
 rcases h with ⟨a, b, rfl, rfl, rfl⟩ | ⟨a, rfl, rfl, rfl⟩ | ⟨a, rfl, rfl, rfl⟩ | ⟨a, rfl, rfl, rfl⟩ | ⟨a, rfl, rfl, rfl⟩ | ⟨a, b, rfl, rfl, rfl⟩ | ⟨a, rfl, rfl, rfl⟩
 ·exact (Lib.slow_C2 _ _ _ _ _ hn b1 b2 b3 ⟨a, b⟩).symm
 ·exact (Lib.slow_E0 _ _ _ _ _ hn b1 b2 b3 a).symm
 ·exact (Lib.slow_E1 _ _ _ _ _ hn b1 b2 b3 a).symm
 ·exact (Lib.slow_ED _ _ _ _ _ hn b1 b2 b3 a).symm
 ·exact (Lib.slow_F0 _ _ _ _ _ hn b1 b2 b3 a).symm
 ·exact (Lib.slow_F1 _ _ _ _ _ hn b1 b2 b3 ⟨a, b⟩).symm
 ·exact (Lib.slow_F4 _ _ _ _ _ hn b1 b2 b3 a).symm
theorem wd_yes (s : ByteArray) (i n lo hi : Nat) (hi' : i < s.size) (h : Cls (byt s i) n lo hi)
  (hs : i + n ≤ s.size) (h1 : lo ≤ byt s (i + 1) ∧ byt s (i + 1) ≤ hi) (hr : ∀ j, 2 ≤ j → j < n → 128 ≤ byt s (i + j) ∧ byt s (i + j) ≤ 191) : wd s i = n := by
 have e := decode_cls s i n lo hi hi' h
 have hn := h.n2
 have e2 : (Utf8.decode s i).2 = n := by
  rw [e]; unfold Lib.slowN
  have r2 := hr 2 (by omega); have r3 := hr 3 (by omega)
  repeat' split
  all_goals (simp only; omega)
 unfold wd
 rw [if_neg (by omega), if_neg (by omega), e2]
theorem wd_no (s : ByteArray) (i n lo hi : Nat) (hi' : i < s.size) (h : Cls (byt s i) n lo hi)
  (hno : ¬ (i + n ≤ s.size ∧ (lo ≤ byt s (i + 1) ∧ byt s (i + 1) ≤ hi) ∧ ∀ j, 2 ≤ j → j < n → 128 ≤ byt s (i + j) ∧ byt s (i + j) ≤ 191)) : wd s i = 0 := by
 have e := decode_cls s i n lo hi hi' h
 have hn := h.n2
 have e2 : (Utf8.decode s i).2 = 1 := by
  rw [e]; unfold Lib.slowN
  repeat' split
  all_goals first
   | rfl
   | (exfalso; apply hno; refine ⟨by omega, by omega, fun j h2 h3 => ?_⟩
      have : j = 2 ∨ j = 3 := by omega
      rcases this with rfl | rfl <;> omega)
 unfold wd
 rw [if_neg (by omega), if_pos e2]
theorem wd_bad (s : ByteArray) (i : Nat) (h : (128 ≤ byt s i ∧ byt s i < 194) ∨ 244 < byt s i) : wd s i = 0 := by
 have b0 := byt_lt s i
 have e2 : (Utf8.decode s i).2 = 1 := by
  rw [Lib.decode_at]
  show (Lib.decodeN (s.size - i) (byt s i) _ _ _).2 = 1
  have b1 := byt_lt s (i + 1); have b2 := byt_lt s (i + 2); have b3 := byt_lt s (i + 3)
  unfold byt at b1 b2 b3
  unfold Lib.decodeN
  repeat' split
  all_goals first | rfl | (exfalso; omega)
 unfold wd
 rw [if_neg (by omega), if_pos e2]
theorem wd_one (s : ByteArray) (i : Nat) (h : byt s i < 128) : wd s i = 1 := by unfold wd; rw [if_pos h]
def chars (s : ByteArray) : Nat → Nat → Nat → Int × Int
 | 0, _, n => (n, 0)
 | f + 1, i, n => if i < s.size then (if wd s i = 0 then (-1, (i : Int)) else chars s f (i + wd s i) (n + 1)) else (n, 0)
theorem wd_in (s : ByteArray) (i : Nat) (h : i < s.size) : i + wd s i ≤ s.size := by
 unfold wd
 have : i + (Utf8.decode s i).2 ≤ s.size := by
  rw [Lib.decode_at]; unfold Lib.decodeN
  repeat' split
  all_goals (simp only; omega)
 split <;> (try split) <;> omega
def blk (b : Nat) : Bool := b == 32 || b == 9 || b == 10
def eol (b : Nat) : Bool := b == 10
def ink (b : Nat) : Bool := !blk b
def scanF (p : Nat → Bool) (s : ByteArray) : Nat → Nat → Nat
 | 0, k => k
 | f + 1, k => if k < s.size then (if p (byt s k) then k else scanF p s f (k + 1)) else k
def scan (p : Nat → Bool) (s : ByteArray) (k : Nat) : Nat := scanF p s (s.size - k) k
theorem scanF_eq (p : Nat → Bool) (s : ByteArray) : ∀ (f k m : Nat), s.size - k ≤ f → k ≤ m → m ≤ s.size → (∀ x, k ≤ x → x < m → p (byt s x) = false) → (m = s.size ∨ p (byt s m) = true) → scanF p s f k = m
 | 0, k, m, hf, h1, h2, _, _ => by unfold scanF; omega
 | f + 1, k, m, hf, h1, h2, h3, h4 => by
  unfold scanF
  by_cases hk : k < s.size
  ·rw [if_pos hk]
   by_cases e : k = m
   ·subst e
    rcases h4 with h4 | h4
    ·omega
    ·rw [if_pos h4]
   ·rw [if_neg (by rw [h3 k (Nat.le_refl _) (by omega)]; exact Bool.false_ne_true)]
    exact scanF_eq p s f (k + 1) m (by omega) (by omega) h2 (fun x a b => h3 x (by omega) b) h4
  ·rw [if_neg hk]; omega
theorem scan_eq {p : Nat → Bool} {s : ByteArray} {k m : Nat} (h1 : k ≤ m) (h2 : m ≤ s.size) (h3 : ∀ x, k ≤ x → x < m → p (byt s x) = false) (h4 : m = s.size ∨ p (byt s m) = true) : scan p s k = m :=
 scanF_eq p s _ k m (Nat.le_refl _) h1 h2 h3 h4
theorem scanF_spec (p : Nat → Bool) (s : ByteArray) : ∀ (f k : Nat), s.size - k ≤ f → k ≤ s.size → k ≤ scanF p s f k ∧ scanF p s f k ≤ s.size ∧ (∀ x, k ≤ x → x < scanF p s f k → p (byt s x) = false) ∧ (scanF p s f k = s.size ∨ p (byt s (scanF p s f k)) = true)
 | 0, k, hf, hk => by unfold scanF; exact ⟨Nat.le_refl _, hk, fun x a b => by omega, Or.inl (by omega)⟩
 | f + 1, k, hf, hk => by
  unfold scanF
  by_cases h : k < s.size
  ·rw [if_pos h]
   by_cases hp : p (byt s k) = true
   ·rw [if_pos hp]; exact ⟨Nat.le_refl _, hk, fun x a b => by omega, Or.inr hp⟩
   ·rw [if_neg hp]
    obtain ⟨a, b, c, d⟩ := scanF_spec p s f (k + 1) (by omega) (by omega)
    refine ⟨by omega, b, fun x x1 x2 => ?_, d⟩
    by_cases e : x = k
    ·subst e; simpa using hp
    ·exact c x (by omega) x2
  ·rw [if_neg h]; exact ⟨Nat.le_refl _, hk, fun x a b => by omega, Or.inl (by omega)⟩
theorem scan_spec (p : Nat → Bool) (s : ByteArray) (k : Nat) (hk : k ≤ s.size) : k ≤ scan p s k ∧ scan p s k ≤ s.size ∧ (∀ x, k ≤ x → x < scan p s k → p (byt s x) = false) ∧ (scan p s k = s.size ∨ p (byt s (scan p s k)) = true) :=
 scanF_spec p s _ k (Nat.le_refl _) hk
abbrev Tk := ByteArray × Nat
def note : ByteArray := ⟨#[92]⟩
def toksF (s : ByteArray) : Nat → Nat → List Tk
 | 0, _ => []
 | f + 1, i =>
  if i < s.size then
   (if blk (byt s i) = true then toksF s f (i + 1)
     else if s.extract i (scan blk s i) = note then toksF s f (scan eol s (scan blk s i))
     else (s.extract i (scan blk s i), i) :: toksF s f (scan blk s i))
  else []
theorem scan_blk_lt (s : ByteArray) (i : Nat) (h : i < s.size) (hb : blk (byt s i) = false) : i < scan blk s i := by
 obtain ⟨a, b, c, d⟩ := scan_spec blk s i (by omega)
 rcases Nat.lt_or_ge i (scan blk s i) with h' | h'
 ·exact h'
 ·have e : scan blk s i = i := by omega
  rw [e] at d
  rcases d with d | d
  ·omega
  ·rw [hb] at d; cases d
theorem toksF_fuel (s : ByteArray) : ∀ (f g i : Nat), s.size - i ≤ f → s.size - i ≤ g → toksF s f i = toksF s g i
 | 0, 0, _, _, _ => rfl
 | 0, g + 1, i, hf, _ => by unfold toksF; rw [if_neg (by omega)]
 | f + 1, 0, i, _, hg => by unfold toksF; rw [if_neg (by omega)]
 | f + 1, g + 1, i, hf, hg => by
  unfold toksF
  by_cases h : i < s.size
  ·rw [if_pos h, if_pos h]
   by_cases hb : blk (byt s i) = true
   ·rw [if_pos hb, if_pos hb]; exact toksF_fuel s f g (i + 1) (by omega) (by omega)
   ·rw [if_neg hb, if_neg hb]
    have h1 := scan_blk_lt s i h (by simpa using hb)
    have h2 := (scan_spec blk s i (by omega)).2.1
    have h3 := (scan_spec eol s (scan blk s i) h2).1
    by_cases hn : s.extract i (scan blk s i) = note
    ·rw [if_pos hn, if_pos hn]; exact toksF_fuel s f g _ (by omega) (by omega)
    ·rw [if_neg hn, if_neg hn, toksF_fuel s f g _ (by omega) (by omega)]
  ·rw [if_neg h, if_neg h]
def toksAt (s : ByteArray) (i : Nat) : List Tk := toksF s (s.size - i) i
theorem toksAt_end (s : ByteArray) (i : Nat) (h : s.size ≤ i) : toksAt s i = [] := by
 unfold toksAt; rw [show s.size - i = 0 by omega]; rfl
theorem toksAt_blank (s : ByteArray) (i : Nat) (h : i < s.size) (hb : blk (byt s i) = true) : toksAt s i = toksAt s (i + 1) := by
 unfold toksAt
 rw [toksF_fuel s (s.size - i) (s.size - i + 1) i (by omega) (by omega)]
 rw [toksF, if_pos h, if_pos hb]
 exact toksF_fuel s _ _ _ (by omega) (by omega)
theorem toksAt_note (s : ByteArray) (i : Nat) (h : i < s.size) (hb : blk (byt s i) = false) (hn : s.extract i (scan blk s i) = note) : toksAt s i = toksAt s (scan eol s (scan blk s i)) := by
 unfold toksAt
 have h1 := scan_blk_lt s i h hb
 have h2 := (scan_spec blk s i (by omega)).2.1
 have h3 := (scan_spec eol s (scan blk s i) h2).1
 rw [toksF_fuel s (s.size - i) (s.size - i + 1) i (by omega) (by omega)]
 rw [toksF, if_pos h, if_neg (by rw [hb]; exact Bool.false_ne_true), if_pos hn]
 exact toksF_fuel s _ _ _ (by omega) (by omega)
theorem toksAt_tok (s : ByteArray) (i : Nat) (h : i < s.size) (hb : blk (byt s i) = false) (hn : ¬ s.extract i (scan blk s i) = note) : toksAt s i = (s.extract i (scan blk s i), i) :: toksAt s (scan blk s i) := by
 unfold toksAt
 have h1 := scan_blk_lt s i h hb
 rw [toksF_fuel s (s.size - i) (s.size - i + 1) i (by omega) (by omega)]
 rw [toksF, if_pos h, if_neg (by rw [hb]; exact Bool.false_ne_true), if_neg hn]
 rw [toksF_fuel s _ _ _ (by omega) (Nat.le_refl _)]
def tab : List (List UInt8 × Int × Int) := [([43], 2, 1), ([45], 2, 1), ([42], 2, 1), ([97, 110, 100], 2, 1), ([111, 114], 2, 1), ([120, 111, 114], 2, 1), ([47], 2, 1), ([109, 111, 100], 2, 1), ([61], 2, 1), ([60], 2, 1), ([62], 2, 1), ([109, 105, 110], 2, 1), ([109, 97, 120], 2, 1), ([110, 105, 112], 2, 1), ([110, 101, 103, 97, 116, 101], 1, 1), ([97, 98, 115], 1, 1), ([48, 61], 1, 1), ([64], 1, 1), ([100, 117, 112], 1, 2), ([100, 114, 111, 112], 1, 0), ([111, 117, 116], 1, 0), ([115, 119, 97, 112], 2, 2), ([111, 118, 101, 114], 2, 3), ([116, 117, 99, 107], 2, 3), ([114, 111, 116], 3, 3), ([33], 2, 0), ([105, 110], 0, 1), ([105], 0, 1)]
def thereL (l : List UInt8) : Int × Int × Bool :=
 match tab.find? (fun r => r.1 == l) with
 | some r => (r.2.1, r.2.2, true)
 | none => (0, 0, false)
def thereS (s : ByteArray) : Int × Int × Bool := thereL s.toList
def sat (n : Int) (b : Nat) : Int := if 2147483648 < n * 10 + b - 48 then 2147483649 else n * 10 + b - 48
def numAt (s : ByteArray) : Nat → Nat → Int → Option Int
 | 0, _, n => some n
 | f + 1, k, n => if k < s.size then (if byt s k < 48 ∨ 57 < byt s k then none else numAt s f (k + 1) (sat n (byt s k))) else some n
def cellOk (n : Int) : Bool := decide (-2147483648 ≤ n) && decide (n ≤ 2147483647)
def numFrom (s : ByteArray) (i : Nat) (neg : Bool) : Int × Bool :=
 if s.size ≤ i then (0, false) else
  match numAt s s.size i 0 with
  | none => (0, false)
  | some n => if neg then (-n, cellOk (-n)) else (n, cellOk n)
def numS (s : ByteArray) : Int × Bool := if 0 < s.size ∧ byt s 0 = 45 then numFrom s 1 true else numFrom s 0 false
def nine : List ByteArray := [⟨#[58]⟩, ⟨#[59]⟩, ⟨#[118, 97, 114, 105, 97, 98, 108, 101]⟩, ⟨#[105, 102]⟩, ⟨#[101, 108, 115, 101]⟩, ⟨#[116, 104, 101, 110]⟩, ⟨#[100, 111]⟩, ⟨#[108, 111, 111, 112]⟩, ⟨#[92]⟩]
def inL (s : ByteArray) (l : List ByteArray) : Bool := l.any fun x => x.toList == s.toList
def nameS (s : ByteArray) : Bool := decide (1 ≤ (chars s s.size 0 0).1) && decide ((chars s s.size 0 0).1 ≤ 16) && !(numS s).2 && !inL s nine
end Go.Proofs.YtcphhbofjkenaaaGreatDoor
namespace Go.Proofs.YtcphhbofjkenaaaGreatDoor
open Go
set_option linter.unusedVariables false
theorem num_bd (s : ByteArray) (h : (numS s).2 = true) : -2147483648 ≤ (numS s).1 ∧ (numS s).1 ≤ 2147483647 := by
 have key : ∀ i b, (numFrom s i b).2 = true → -2147483648 ≤ (numFrom s i b).1 ∧ (numFrom s i b).1 ≤ 2147483647 := by
  intro i b hb
  unfold numFrom at hb ⊢
  by_cases h0 : s.size ≤ i
  ·rw [if_pos h0] at hb; cases hb
  ·rw [if_neg h0] at hb ⊢
   cases hn : numAt s s.size i 0 with
   | none => rw [hn] at hb; cases hb
   | some n =>
    rw [hn] at hb
    simp only at hb ⊢
    cases b <;> simp [cellOk] at hb ⊢ <;> omega
 unfold numS at h ⊢
 split at h <;> (rename_i hc; first | (rw [if_pos hc]; exact key _ _ h) | (rw [if_neg hc]; exact key _ _ h))
end Go.Proofs.YtcphhbofjkenaaaGreatDoor
namespace Go.Proofs.YtcphhbofjkenaaaGreatDoor
open Go Go.RowKit
structure Chg (S : Nat → Prop) (w w' : World) : Prop where
 os : w'.os = w.os
 tape : w'.tape = w.tape
 output : w'.output = w.output
 size : w.heap.size ≤ w'.heap.size
 block : ∀ k, k < w.heap.size → ¬ S k → w'.heap[k]? = w.heap[k]?
theorem Chg.refl (S : Nat → Prop) (w : World) : Chg S w w := ⟨rfl, rfl, rfl, Nat.le_refl _, fun _ _ _ => rfl⟩
theorem Chg.trans {S : Nat → Prop} {a b c : World} (h : Chg S a b) (k : Chg S b c) : Chg S a c :=
 ⟨k.os.trans h.os, k.tape.trans h.tape, k.output.trans h.output, Nat.le_trans h.size k.size, fun i hi hs => (k.block i (Nat.lt_of_lt_of_le hi h.size) hs).trans (h.block i hi hs)⟩
theorem Chg.mono {S S' : Nat → Prop} {w w' : World} (h : Chg S w w') (hs : ∀ k, k < w.heap.size → S k → S' k) : Chg S' w w' :=
 ⟨h.os, h.tape, h.output, h.size, fun k hk hn => h.block k hk fun a => hn (hs k hk a)⟩
theorem Chg.ofBelow {S : Nat → Prop} {w w' : World} (h : Below w.heap.size w w') : Chg S w w' := ⟨h.os, h.tape, h.output, h.size, fun k hk _ => h.block k hk⟩
theorem Chg.toBelow {B : Nat} {S : Nat → Prop} {w w' : World} (h : Chg S w w') (hB : B ≤ w.heap.size) (hs : ∀ k, k < B → ¬ S k) : Below B w w' := ⟨h.os, h.tape, h.output, h.size, fun k hk => h.block k (by omega) (hs k hk)⟩
theorem Chg.ofGrown {w w' : World} {row : Option Nat} (h : w.grownBy w' row) : Chg (fun k => some k = row) w w' := ⟨h.os, h.tape, h.output, h.size, fun k hk hn => h.block k hk hn⟩
theorem Chg.drew {S : Nat → Prop} {a w : World} (h : Chg S a w) : Chg S a w.drew := ⟨h.os, h.tape, h.output, h.size, h.block⟩
theorem Chg.alloc {S : Nat → Prop} {a w : World} (h : Chg S a w) (o : Obj) : Chg S a (w.alloc o) :=
 h.trans ⟨rfl, rfl, rfl, by simp, fun k hk _ => Below.heap_alloc _ _ _ hk⟩
theorem Chg.setCell {S : Nat → Prop} {a w : World} (h : Chg S a w) {p : Addr} (hp : S p.block) (u : Value) : Chg S a (w.setCell p u) :=
 h.trans ⟨rfl, rfl, rfl, by simp [World.setCell], fun k _ hn => Below.heap_setCell _ _ _ _ (fun e => hn (e ▸ hp))⟩
theorem Chg.cell {S : Nat → Prop} {w w' : World} (h : Chg S w w') {p : Addr} (hp : p.block < w.heap.size) (hn : ¬ S p.block) : w'.cell? p = w.cell? p := World.cell?_of_block (w := w) (h.block p.block hp hn)
def Blk (w : World) (b : Nat) (cs : Array Value) (t : TypeId) : Prop := w.heap[b]? = some (.cells cs t (0, 0))
theorem Blk.lt {w : World} {b : Nat} {cs : Array Value} {t : TypeId} (h : Blk w b cs t) : b < w.heap.size := (Array.getElem?_eq_some_iff.1 h).1
theorem Blk.cell {w : World} {b : Nat} {cs : Array Value} {t : TypeId} (h : Blk w b cs t) (o : Nat) (v : Value) (hv : cs[o]? = some v) : w.cell? ⟨b, o, none⟩ = some v := by
 unfold Blk at h; simp [World.cell?, h, hv]
theorem Blk.frozen {w : World} {b : Nat} {cs : Array Value} {t : TypeId} (h : Blk w b cs t) (o : Nat) : w.frozen? ⟨b, o, none⟩ = false := by
 unfold Blk at h; simp [World.frozen?, h]
theorem Blk.chg {S : Nat → Prop} {w w' : World} {b : Nat} {cs : Array Value} {t : TypeId} (h : Blk w b cs t) (hc : Chg S w w') (hn : ¬ S b) : Blk w' b cs t := (hc.block b h.lt hn).trans h
theorem Blk.alloc {w : World} {b : Nat} {cs : Array Value} {t : TypeId} (h : Blk w b cs t) (o : Obj) : Blk (w.alloc o) b cs t := (Below.heap_alloc w o b h.lt).trans h
theorem Blk.set {w : World} {b o : Nat} {cs : Array Value} {t : TypeId} (h : Blk w b cs t) (v : Value) : Blk (w.setCell ⟨b, o, none⟩ v) b (cs.setIfInBounds o v) t := by
 unfold Blk at *
 simp only [World.setCell, Array.getElem?_modify, h]
 simp
theorem Blk.setOther {w : World} {b : Nat} {cs : Array Value} {t : TypeId} (h : Blk w b cs t) {a : Addr} (hn : a.block ≠ b) (v : Value) : Blk (w.setCell a v) b cs t := by
 unfold Blk at *
 rw [Below.heap_setCell _ _ _ _ (Ne.symm hn)]; exact h
structure Inf where
 need : Int
 net : Int
 high : Int
 steps : Int
 str : Bool
def Inf.val (i : Inf) : Value := .agg #[.int .i64 i.need, .int .i64 i.net, .int .i64 i.high, .int .i64 i.steps, .bool i.str]
def Inf.zero : Inf := ⟨0, 0, 0, 0, true⟩
def Inf.then (a b : Inf) : Inf := ⟨max a.need (b.need - a.net), a.net + b.net, max a.high (a.net + b.high), min (a.steps + b.steps) 1000000001, a.str && b.str⟩
def Inf.plain (t p : Int) : Inf := ⟨t, p - t, max 0 (p - t), 1, true⟩
inductive IT where
 | num (n : Int)
 | op (s : ByteArray)
 | own (k : Nat)
 | iff (a : List IT)
 | els (a b : List IT)
 | doo (a : List IT)
structure RW where
 name : ByteArray
 var : Int
 items : Value
 inf : Inf
 its : List IT
theorem flat_get {α : Type} (f : α → List Value) (n : Nat) (hf : ∀ x, (f x).length = n) : ∀ (l : List α) (i j : Nat) (h : i < l.length), j < n → (l.flatMap f)[i * n + j]? = (f l[i])[j]?
 | [], i, j, h, _ => by simp at h
 | x :: l, 0, j, _, hj => by simp [List.flatMap_cons]; rw [List.getElem?_append_left (by rw [hf]; exact hj)]
 | x :: l, i + 1, j, h, hj => by
  simp only [List.flatMap_cons]
  rw [List.getElem?_append_right (by rw [hf, Nat.succ_mul]; omega), hf]
  rw [show (i + 1) * n + j - n = i * n + j by rw [Nat.succ_mul]; omega]
  simpa using flat_get f n hf l i j (by simpa using h) hj
theorem flat_length {α : Type} (f : α → List Value) (n : Nat) (hf : ∀ x, (f x).length = n) : ∀ (l : List α), (l.flatMap f).length = l.length * n
 | [] => by simp
 | x :: l => by simp only [List.flatMap_cons, List.length_append, hf, List.length_cons]; rw [flat_length f n hf l, Nat.succ_mul]; omega
theorem row_cells {w : World} {base : Nat} {e : TypeId} {size : Nat} {v : Value} {n : Nat} {xs : List Value} (h : w.ownsRow base e size v n xs) (hn : 0 < n) :
  ∃ g cap, v = .slice (some ⟨g, 0, none⟩) n cap ∧ base ≤ g ∧ g < w.heap.size ∧ n ≤ cap ∧ cap ≤ maxLen ∧ ∀ (j : Nat) (u : Value), xs[j]? = some u → w.cell? ⟨g, j, none⟩ = some u := by
 rcases h.2 with ⟨_, h0⟩ | ⟨g, cap, cur, hv, hg, hh, h1, h2, h3, h4⟩
 ·omega
 ·refine ⟨g, cap, hv, hg, (Array.getElem?_eq_some_iff.1 hh).1, h1, h2, fun j u hu => ?_⟩
  rw [← h4] at hu
  have : cur[j]? = some u := by
   rw [List.getElem?_take] at hu
   split at hu
   ·simpa using hu
   ·cases hu
  simp [World.cell?, hh, this]
theorem ownsRow_chg {S : Nat → Prop} {w w' : World} {base : Nat} {e : TypeId} {size : Nat} {v : Value} {n : Nat} {xs : List Value} (h : w.ownsRow base e size v n xs) (hc : Chg S w w') (hs : ∀ k, v.ownBlock = some k → ¬ S k) : w'.ownsRow base e size v n xs := by
 refine ⟨h.1, ?_⟩
 rcases h.2 with h2 | ⟨g, cap, cur, hv, hg, hh, r⟩
 ·exact Or.inl h2
 ·refine Or.inr ⟨g, cap, cur, hv, hg, ?_, r⟩
  rw [hc.block g (Array.getElem?_eq_some_iff.1 hh).1 (hs g (by rw [hv]; rfl))]; exact hh
def lastK (f : Nat → ByteArray) (n : ByteArray) : Nat → Int
 | 0 => -1
 | k + 1 => if ((f k).toList == n.toList) = true then (k : Int) else lastK f n k
theorem lastK_lt (f : Nat → ByteArray) (n : ByteArray) : ∀ k, lastK f n k < k ∧ -1 ≤ lastK f n k
 | 0 => by simp [lastK]
 | k + 1 => by
  have := lastK_lt f n k
  unfold lastK
  split <;> omega
def nameAt (ws : List RW) (i : Nat) : ByteArray := (ws.map RW.name).getD i ⟨#[]⟩
def findW (ws : List RW) (n : ByteArray) : Int := lastK (nameAt ws) n ws.length
end Go.Proofs.YtcphhbofjkenaaaGreatDoor
namespace Go.Proofs.YtcphhbofjkenaaaGreatDoor
open Go Go.RowKit
set_option linter.unusedVariables false
set_option linter.unusedSimpArgs false
def Keeps (w w' : World) (e : TypeId) (size n : Nat) (v : Value) : Prop :=
 ∀ g cap cur, v = .slice (some ⟨g, 0, none⟩) n cap → w.heap[g]? = some (.cells cur e (0, 0)) → ∃ cur', w'.heap[g]? = some (.cells cur' e (0, 0)) ∧ cur'.size = cur.size ∧ cur'.toList.take (n * size) = cur.toList.take (n * size)
section
variable {P : Program} (w : World)
theorem run_append_keep (base : Nat) (t ty e : TypeId) (i : TypeInfo) (z : Value) (size bytes : Nat) (ht : P.underlying t = some (.slice e)) (hi : P.info? e = some i) (hz : i.zero = some z)
  (hsize : i.size = size) (hby : i.bytes = bytes) (hzs : z.cells.size = size) (hsz : 0 < size)
  (v : Value) (n : Nat) (xs : List Value) (hown : w.ownsRow base e size v n xs)
  (a : Addr) (m c : Nat) (news : List Value) (hl : news.length = m * size) (hnews : ∀ j u, news[j]? = some u → w.cell? (a.add j) = some u) (h1 : ∀ u ∈ news, u.oneCell' = true)
  (h63 : n + m ≤ maxLen) (hbytes : (n + m) * bytes ≤ 140737488355328) (hbase : base ≤ w.heap.size) :
  ∃ v' w', (Builtin.append_ #[t, t] ty #[v, .slice (some a) m c]).run P w = .ok v' w' ∧ w'.ownsRow base e size v' (n + m) (xs ++ news) ∧ w.grownBy w' v.ownBlock ∧
   (v'.ownBlock = v.ownBlock ∨ v'.ownBlock = some w.heap.size) ∧ Keeps w w' e size n v := by
 obtain ⟨v', w', hr, h2, h3, _, h5⟩ := run_append_own_at (P := P) w base t ty e i z size bytes ht hi hz hsize hby hzs hsz v n xs hown a m c news hl hnews h1 h63 hbytes hbase
 refine ⟨v', w', hr, h2, h3, h5, ?_⟩
 intro g cap cur hv hg
 subst hv
 subst hsize
 subst hby
 rcases hown.2 with ⟨hx, _⟩ | ⟨g', cap', cur', hx, _, hg', hnc, _, hcs, htk⟩
 ·cases hx
 ·obtain ⟨rfl, rfl⟩ : g = g' ∧ cap = cap' := by simpa using hx
  rw [hg] at hg'
  obtain rfl : cur = cur' := by simpa using hg'
  by_cases hroom : n + m ≤ cap
  ·have hfit : n * i.size + news.length ≤ cur.size := by rw [hl, hcs, ← Nat.add_mul]; exact Nat.mul_le_mul_right _ hroom
   have hr' := run_append_room (P := P) w t ty e i ht hi g n cap cur hg a m c news hl hnews h1 hroom hfit
   rw [hr'] at hr
   injection hr with _ hw
   subst hw
   refine ⟨_, setRow_heap w g cur _ e _ hg, ?_, ?_⟩
   ·simp only [List.size_toArray, List.length_append, List.length_take, List.length_drop, Array.length_toList]; omega
   ·have hle : n * i.size ≤ cur.toList.length := by rw [Array.length_toList]; omega
    rw [List.append_assoc, List.take_append_of_le_length (by rw [List.length_take]; omega), List.take_take, Nat.min_self]
  ·have holds : ∀ j u, xs[j]? = some u → w.cell? ((⟨g, 0, none⟩ : Addr).add j) = some u := hown.cells (g := g) rfl
   have hr' := run_append_grow (P := P) w t ty e i z ht hi hz ⟨g, 0, none⟩ n cap xs hown.1 holds a m c news hl hnews (by omega) (by simp only [maxLen] at h63; omega) (growslice_fits (by omega) hbytes)
   rw [hr'] at hr
   injection hr with _ hw
   subst hw
   exact ⟨cur, (heap_alloc_old w.drew _ g (Array.getElem?_eq_some_iff.1 hg).1).trans hg, rfl, rfl⟩
theorem wpList_append_keep {ops : Array Oper} {rest : List Oper} {o : Oper} {a : Act} {Q : Exit → Act → World → Prop} (hgd : o.guard = none) (s x : Operand) (t : TypeId)
  (ho : o.op = .call { callee := .builtin .append, args := #[s, x], argTypes := #[t, t] })
  (base : Nat) (e : TypeId) (i : TypeInfo) (z : Value) (size bytes : Nat) (ht : P.underlying t = some (.slice e)) (hi : P.info? e = some i) (hz : i.zero = some z)
  (hsize : i.size = size) (hby : i.bytes = bytes) (hzs : z.cells.size = size) (hsz : 0 < size)
  (v : Value) (n : Nat) (xs : List Value) (hs : a.eval s = v) (hown : w.ownsRow base e size v n xs)
  (ad : Addr) (m c : Nat) (news : List Value) (hx : a.eval x = .slice (some ad) m c) (hl : news.length = m * size) (hnews : ∀ j u, news[j]? = some u → w.cell? (ad.add j) = some u) (h1 : ∀ u ∈ news, u.oneCell' = true)
  (h63 : n + m ≤ maxLen) (hbytes : (n + m) * bytes ≤ 140737488355328) (hbase : base ≤ w.heap.size)
  (h : ∀ v' w', w'.ownsRow base e size v' (n + m) (xs ++ news) → w.grownBy w' v.ownBlock → (v'.ownBlock = v.ownBlock ∨ v'.ownBlock = some w.heap.size) → Keeps w w' e size n v → wpList P ops Q rest (a.put o.dst v') w') :
  wpList P ops Q (o :: rest) a w := by
 refine wpList_plain hgd fun K hK => ?_
 obtain ⟨v', w', hr, h2, h3, h4, h5⟩ := run_append_keep (P := P) w base t o.type e i z size bytes ht hi hz hsize hby hzs hsz v n xs hown ad m c news hl hnews h1 h63 hbytes hbase
 unfold Oper.wp execOp
 simp only [ho, resolve, invoke, builtin, Sem.run_bind, Sem.run_pure, Result.andThen_ok, List.map_toArray, List.map_cons, List.map_nil, hs, hx, hr]
 exact hK _ _ (h v' w' h2 h3 h4 h5)
theorem wpList_append_none {ops : Array Oper} {rest : List Oper} {o : Oper} {a : Act} {Q : Exit → Act → World → Prop} (hgd : o.guard = none) (s x : Operand) (t : TypeId)
  (ho : o.op = .call { callee := .builtin .append, args := #[s, x], argTypes := #[t, t] })
  (e : TypeId) (i : TypeInfo) (ht : P.underlying t = some (.slice e)) (hi : P.info? e = some i)
  (b : Addr) (n cap : Nat) (hs : a.eval s = .slice (some b) n cap) (hn : n ≤ cap) (hx : a.eval x = .slice none 0 0)
  (h : wpList P ops Q rest (a.put o.dst (.slice (some b) n cap)) w) :
  wpList P ops Q (o :: rest) a w := by
 refine wpList_plain hgd fun K hK => ?_
 have hr : (Builtin.append_ #[t, t] o.type #[.slice (some b) n cap, .slice none 0 0]).run P w = .ok (.slice (some b) n cap) w := by
  simp [Builtin.append_, run_underlying ht, sizeOf, typeInfo, hi, Builtin.lenOf, hn, run_firstCells_none, storeCells]
 unfold Oper.wp execOp
 simp only [ho, resolve, invoke, builtin, Sem.run_bind, Sem.run_pure, Result.andThen_ok, List.map_toArray, List.map_cons, List.map_nil, hs, hx, hr]
 exact hK _ _ h
end
theorem ownsRow_keep {w w' : World} {base b2 : Nat} {e e2 : TypeId} {size size2 : Nat} {v u : Value} {n p : Nat} {xs ys : List Value} (hown : w.ownsRow base e size v n xs) (hu : w.ownsRow b2 e2 size2 u p ys)
  (hg : w.grownBy w' v.ownBlock) (hk : Keeps w w' e size n v) (hp : u.ownBlock = v.ownBlock → v.ownBlock ≠ none → e2 = e ∧ size2 = size ∧ p ≤ n) : w'.ownsRow b2 e2 size2 u p ys := by
 refine ⟨hu.1, ?_⟩
 rcases hu.2 with h | ⟨g, cap, cur, rfl, hb, hh, h1, h2, h3, h4⟩
 ·exact Or.inl h
 ·refine Or.inr ?_
  by_cases hv : v.ownBlock = some g
  ·obtain ⟨rfl, rfl, hpn⟩ := hp (by rw [hv]; rfl) (by rw [hv]; simp)
   rcases hown.2 with ⟨rfl, _⟩ | ⟨g', cap', cur2, rfl, _, hh2, h5, _, h6, h7⟩
   ·cases hv
   ·obtain rfl : g' = g := by simpa [Value.ownBlock] using hv
    obtain ⟨cur', k1, k2, k3⟩ := hk g' cap' cur rfl hh
    refine ⟨g', cap, cur', rfl, hb, k1, h1, h2, by rw [k2, h3], ?_⟩
    have hle : p * size2 ≤ n * size2 := Nat.mul_le_mul_right _ hpn
    have := congrArg (List.take (p * size2)) k3
    rw [List.take_take, List.take_take, Nat.min_eq_left hle] at this
    rw [this, h4]
  ·exact ⟨g, cap, cur, rfl, hb, (hg.block g (Array.getElem?_eq_some_iff.1 hh).1 (fun e => hv e.symm)).trans hh, h1, h2, h3, h4⟩
theorem ownsRow_set {w : World} {base : Nat} {e : TypeId} {size : Nat} {g n cap : Nat} {xs : List Value} (h : w.ownsRow base e size (.slice (some ⟨g, 0, none⟩) n cap) n xs) (k : Nat) (u : Value) : (w.setCell ⟨g, k, none⟩ u).ownsRow base e size (.slice (some ⟨g, 0, none⟩) n cap) n (xs.set k u) := by
 refine ⟨by rw [List.length_set]; exact h.1, Or.inr ?_⟩
 rcases h.2 with ⟨hx, _⟩ | ⟨g', cap', cur, hv, hb, hh, h1, h2, h3, h4⟩
 ·cases hx
 ·obtain ⟨rfl, rfl⟩ : g = g' ∧ cap = cap' := by simpa using hv
  refine ⟨g, cap, cur.setIfInBounds k u, rfl, hb, ?_, h1, h2, by simp [h3], ?_⟩
  ·simp only [World.setCell, Array.getElem?_modify, hh]; simp
  ·rw [← h4]; simp [List.take_set]
theorem ownsRow_set_behind {w : World} {base : Nat} {e : TypeId} {size : Nat} {v : Value} {n : Nat} {xs : List Value} (h : w.ownsRow base e size v n xs) (g k : Nat) (u : Value) (hk : v.ownBlock = some g → n * size ≤ k) : (w.setCell ⟨g, k, none⟩ u).ownsRow base e size v n xs := by
 refine ⟨h.1, ?_⟩
 rcases h.2 with h2 | ⟨g', cap', cur, rfl, hb, hh, h1, h2, h3, h4⟩
 ·exact Or.inl h2
 ·refine Or.inr ?_
  by_cases hg : g' = g
  ·subst hg
   have hk' := hk rfl
   refine ⟨g', cap', cur.setIfInBounds k u, rfl, hb, ?_, h1, h2, by simp [h3], ?_⟩
   ·simp only [World.setCell, Array.getElem?_modify, hh]; simp
   ·rw [← h4]; simp [List.take_set]; rw [List.set_eq_of_length_le (by rw [List.length_take]; omega)]
  ·exact ⟨g', cap', cur, rfl, hb, (Below.heap_setCell _ _ _ _ (fun e => hg e)).trans hh, h1, h2, h3, h4⟩
end Go.Proofs.YtcphhbofjkenaaaGreatDoor
