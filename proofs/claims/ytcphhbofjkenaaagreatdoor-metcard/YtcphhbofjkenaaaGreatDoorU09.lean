import Derived.Deep.DrawnRows
import Derived.Deep.RegionHeld3
import Derived.Test.YtcphhbofjkenaaaGreatDoorU04
import Derived.Test.YtcphhbofjkenaaaGreatDoorU05
import Derived.Test.YtcphhbofjkenaaaGreatDoorU06
import Derived.Test.YtcphhbofjkenaaaGreatDoorU08
namespace Go.Proofs.YtcphhbofjkenaaaGreatDoor
open Go.RowKit
set_option linter.unusedVariables false
set_option linter.unusedSimpArgs false
theorem thereS_bd (s : ByteArray) : 0 ≤ (thereS s).1 ∧ (thereS s).1 ≤ 100 ∧ 0 ≤ (thereS s).2.1 ∧ (thereS s).2.1 ≤ 100 := by
 unfold thereS thereL
 split
 ·rename_i r hr
  have hm := List.mem_of_find?_eq_some hr
  have : ∀ r ∈ tab, 0 ≤ r.2.1 ∧ r.2.1 ≤ 100 ∧ 0 ≤ r.2.2 ∧ r.2.2 ≤ 100 := by decide
  exact this r hm
 ·simp
attribute [local go_sem ↓] Go.wp_at_zero Go.wp_at_succ
end Go.Proofs.YtcphhbofjkenaaaGreatDoor
namespace Go.Proofs.YtcphhbofjkenaaaGreatDoor
open Go.RowKit
set_option linter.unusedVariables false
set_option linter.unusedSimpArgs false
def Inf.ways (a b : Inf) : Inf := ⟨max a.need b.need, a.net, max a.high b.high, max a.steps b.steps, false⟩
def Inf.more (a : Inf) : Inf := ⟨a.need, a.net, a.high, min (a.steps + 1) 1000000001, a.str⟩
def Inf.times (a : Inf) (n : Int) : Inf := if n = 0 then ⟨0, 0, 0, 0, a.str⟩ else ⟨a.need, a.net, a.high, min (n * min (a.steps + 1) 1000000001) 1000000001, a.str⟩
def tokS (toks : List Tk) (i : Nat) : ByteArray := (toks.getD i (⟨#[]⟩, 0)).1
def plc (toks : List Tk) (fin : Int) (i : Nat) : Int := if i < toks.length then ((toks.getD i (⟨#[]⟩, 0)).2 : Int) else fin
theorem row_shape {w : World} {base : Nat} {e : TypeId} {size : Nat} {v : Value} {n : Nat} {xs : List Value} (h : w.ownsRow base e size v n xs) : ∃ ad cap, v = .slice ad n cap ∧ n ≤ cap ∧ cap ≤ maxLen := by
 rcases h.2 with ⟨rfl, rfl⟩ | ⟨g, cap, cur, rfl, _, _, h1, h2, _⟩
 ·exact ⟨none, 0, rfl, Nat.le_refl _, Nat.zero_le _⟩
 ·exact ⟨_, cap, rfl, h1, h2⟩
def wordE (ws : List RW) (t : ByteArray) (loops : Int) : Int :=
 if 0 ≤ findW ws t then 0 else if (thereS t).2.2 = false then 3 else if (t.toList == [105]) = true ∧ loops = 0 then 5 else 0
end Go.Proofs.YtcphhbofjkenaaaGreatDoor
namespace Go.Proofs.YtcphhbofjkenaaaGreatDoor
open Go Go.RowKit
set_option linter.unusedVariables false
structure AI where
 num : Option Int
 inf : Inf
 tree : IT
abbrev PR := (List AI × ByteArray × Nat) ⊕ (Int × Int)
def tElse : ByteArray := ⟨#[101, 108, 115, 101]⟩
def tThen : ByteArray := ⟨#[116, 104, 101, 110]⟩
def tLoop : ByteArray := ⟨#[108, 111, 111, 112]⟩
def tSemi : ByteArray := ⟨#[59]⟩
def tColon : ByteArray := ⟨#[58]⟩
def tVar : ByteArray := ⟨#[118, 97, 114, 105, 97, 98, 108, 101]⟩
def stray : List ByteArray := [⟨#[]⟩, tElse, tThen, tLoop, tSemi, tColon, tVar]
def infAt (l : List AI) (j : Nat) : Inf := ((l.map AI.inf).getD j Inf.zero)
def infL (l : List AI) : Inf := upTo (infAt l) l.length
def ownInf (x : RW) : Inf := if 0 ≤ x.var then Inf.plain 0 1 else x.inf.more
def wordI (ws : List RW) (t : ByteArray) : Inf :=
 if 0 ≤ findW ws t then
  match ws[(findW ws t).toNat]? with
  | some x => ownInf x
  | none => Inf.zero
 else Inf.plain (thereS t).1 (thereS t).2.1
def wordT (ws : List RW) (t : ByteArray) : IT := if 0 ≤ findW ws t then .own (findW ws t).toNat else .op t
def trees (l : List AI) : List IT := l.map AI.tree
def lastTwo (l : List AI) : Option (Int × Int) :=
 match l.reverse with
 | ⟨some b, _, _⟩ :: ⟨some a, _, _⟩ :: _ => some (a, b)
 | _ => none
section
variable (ws : List RW) (toks : List Tk) (fin : Int)
def pItems : Nat → List ByteArray → Int → List AI → Nat → PR
 | 0, _, _, _, _ => .inr (99, 0)
 | f + 1, ends, loops, acc, I =>
  if inL (tokS toks I) ends = true then .inl (acc, tokS toks I, I + 1)
  else if inL (tokS toks I) stray = true then .inr (5, plc toks fin I)
  else if (numS (tokS toks I)).2 = true then pItems f ends loops (acc ++ [⟨some (numS (tokS toks I)).1, Inf.plain 0 1, .num (numS (tokS toks I)).1⟩]) (I + 1)
  else if ((tokS toks I).toList == [105, 102]) = true then
   match pItems f [tElse, tThen] loops [] (I + 1) with
   | .inr r => .inr r
   | .inl (la, ta, I1) =>
    if (ta.toList == [101, 108, 115, 101]) = true then
     match pItems f [tThen] loops [] I1 with
     | .inr r => .inr r
     | .inl (lb, _, I2) => if (infL la).net = (infL lb).net then pItems f ends loops (acc ++ [⟨none, (Inf.plain 1 0).then ((infL la).more.ways (infL lb)), .els (trees la) (trees lb)⟩]) I2 else .inr (6, plc toks fin (I2 - 1))
    else if (infL la).net = 0 then pItems f ends loops (acc ++ [⟨none, (Inf.plain 1 0).then ((infL la).ways Inf.zero), .iff (trees la)⟩]) I1 else .inr (6, plc toks fin (I1 - 1))
  else if ((tokS toks I).toList == [100, 111]) = true then
   match lastTwo acc with
   | none => .inr (5, plc toks fin I)
   | some (a, b) =>
    if 1000 < a - b then .inr (7, plc toks fin I) else
     match pItems f [tLoop] (loops + 1) [] (I + 1) with
     | .inr r => .inr r
     | .inl (la, _, I1) => if (infL la).net = 0 then pItems f ends loops (acc ++ [⟨none, (Inf.plain 2 0).then ((infL la).times (max 0 (a - b))), .doo (trees la)⟩]) I1 else .inr (6, plc toks fin (I1 - 1))
  else if wordE ws (tokS toks I) loops = 0 then pItems f ends loops (acc ++ [⟨none, wordI ws (tokS toks I), wordT ws (tokS toks I)⟩]) (I + 1)
  else .inr (wordE ws (tokS toks I) loops, plc toks fin I)
end
structure Inf.Wt (i : Inf) (q : Int) : Prop where
 n0 : -4000000000 * q ≤ i.need
 n1 : i.need ≤ 4000000000 * q
 t0 : -4000000000 * q ≤ i.net
 t1 : i.net ≤ 4000000000 * q
 h0 : 0 ≤ i.high
 h1 : i.high ≤ 4000000000 * q
 s0 : 0 ≤ i.steps
 s1 : i.steps ≤ 1000000001
theorem Inf.Wt.ok {i : Inf} {q : Int} (h : i.Wt q) (h0 : 0 ≤ q) (h1 : q ≤ 10000000) : i.Ok := by
 obtain ⟨a1, a2, a3, a4, a5, a6, a7, a8⟩ := h
 constructor <;> omega
theorem Inf.Wt.mono {i : Inf} {q r : Int} (h : i.Wt q) (hq : q ≤ r) : i.Wt r := by
 obtain ⟨a1, a2, a3, a4, a5, a6, a7, a8⟩ := h
 constructor <;> omega
theorem Inf.Wt.zero : Inf.zero.Wt 0 := by constructor <;> simp [Inf.zero]
theorem Inf.Wt.then {a b : Inf} {q r : Int} (ha : a.Wt q) (hb : b.Wt r) (hq : 0 ≤ q) (hr : 0 ≤ r) : (a.then b).Wt (q + r) := by
 obtain ⟨a1, a2, a3, a4, a5, a6, a7, a8⟩ := ha
 obtain ⟨b1, b2, b3, b4, b5, b6, b7, b8⟩ := hb
 constructor <;> simp only [Inf.then] <;> omega
end Go.Proofs.YtcphhbofjkenaaaGreatDoor
namespace Go.Proofs.YtcphhbofjkenaaaGreatDoor
open Go Go.RowKit
set_option linter.unusedVariables false
set_option linter.unusedSimpArgs false
inductive Bd (ws : List RW) : List AI → Prop
 | nil : Bd ws []
 | num (l : List AI) (n : Int) (hl : Bd ws l) (hn : -2147483648 ≤ n ∧ n ≤ 2147483647) : Bd ws (l ++ [⟨some n, Inf.plain 0 1, .num n⟩])
 | word (l : List AI) (t : ByteArray) (loops : Int) (hl : Bd ws l) (h : wordE ws t loops = 0) : Bd ws (l ++ [⟨none, wordI ws t, wordT ws t⟩])
 | iff (l la : List AI) (hl : Bd ws l) (ha : Bd ws la) (hn : (infL la).net = 0) : Bd ws (l ++ [⟨none, (Inf.plain 1 0).then ((infL la).ways Inf.zero), .iff (trees la)⟩])
 | els (l la lb : List AI) (hl : Bd ws l) (ha : Bd ws la) (hb : Bd ws lb) (hn : (infL la).net = (infL lb).net) : Bd ws (l ++ [⟨none, (Inf.plain 1 0).then ((infL la).more.ways (infL lb)), .els (trees la) (trees lb)⟩])
 | doo (l la : List AI) (a b : Int) (hl : Bd ws l) (hab : lastTwo l = some (a, b)) (h : a - b ≤ 1000) (ha : Bd ws la) (hn : (infL la).net = 0) : Bd ws (l ++ [⟨none, (Inf.plain 2 0).then ((infL la).times (max 0 (a - b))), .doo (trees la)⟩])
theorem pItems_bd (ws : List RW) (toks : List Tk) (fin : Int) : ∀ (f : Nat) (ends : List ByteArray) (loops : Int) (acc : List AI) (I : Nat) (l : List AI) (t : ByteArray) (I' : Nat), pItems ws toks fin f ends loops acc I = .inl (l, t, I') → Bd ws acc → Bd ws l := by
 intro f
 induction f with
 | zero => intro ends loops acc I l t I' h; simp [pItems] at h
 | succ f ih =>
  intro ends loops acc I l t I' h hacc
  rw [pItems] at h
  split at h
  ·simp only [Sum.inl.injEq, Prod.mk.injEq] at h
   rw [← h.1]; exact hacc
  ·split at h
   ·cases h
   ·split at h
    ·rename_i hnum
     exact ih _ _ _ _ _ _ _ h (.num acc _ hacc (num_bd _ hnum))
    ·split at h
     ·split at h
      ·cases h
      ·rename_i la ta I1 hla
       have hA := ih _ _ _ _ _ _ _ hla .nil
       split at h
       ·split at h
        ·cases h
        ·rename_i lb tb I2 hlb
         have hB := ih _ _ _ _ _ _ _ hlb .nil
         split at h
         ·rename_i hn
          exact ih _ _ _ _ _ _ _ h (.els acc la lb hacc hA hB hn)
         ·cases h
       ·split at h
        ·rename_i hn
         exact ih _ _ _ _ _ _ _ h (.iff acc la hacc hA hn)
        ·cases h
     ·split at h
      ·split at h
       ·cases h
       ·rename_i a b hab
        split at h
        ·cases h
        ·rename_i hle
         split at h
         ·cases h
         ·rename_i la ta I1 hla
          have hA := ih _ _ _ _ _ _ _ hla .nil
          split at h
          ·rename_i hn
           exact ih _ _ _ _ _ _ _ h (.doo acc la a b hacc hab (by omega) hA hn)
          ·cases h
      ·split at h
       ·rename_i hw
        exact ih _ _ _ _ _ _ _ h (.word acc _ loops hacc hw)
       ·cases h
end Go.Proofs.YtcphhbofjkenaaaGreatDoor
namespace Go.Proofs.YtcphhbofjkenaaaGreatDoor
open Go Go.RowKit
set_option linter.unusedVariables false
end Go.Proofs.YtcphhbofjkenaaaGreatDoor
namespace Go.Proofs.YtcphhbofjkenaaaGreatDoor
open Go Go.RowKit
set_option linter.unusedVariables false
set_option linter.unusedSimpArgs false
theorem own_lt {w : World} {base : Nat} {e : TypeId} {size : Nat} {v : Value} {n : Nat} {xs : List Value} (h : w.ownsRow base e size v n xs) {k : Nat} (hk : v.ownBlock = some k) : k < w.heap.size := by
 rcases h.2 with ⟨rfl, _⟩ | ⟨g, cap, cur, rfl, _, hg, _⟩
 ·cases hk
 ·simp [Value.ownBlock] at hk; subst hk; exact (Array.getElem?_eq_some_iff.1 hg).1
theorem Chg.trans_ge {S : Nat → Prop} {w w1 w2 : World} (h : Chg S w w1) (h2 : Chg (fun k => w.heap.size ≤ k) w1 w2) : Chg S w w2 :=
 ⟨h2.os.trans h.os, h2.tape.trans h.tape, h2.output.trans h.output, Nat.le_trans h.size h2.size, fun k hk hn => (h2.block k (Nat.lt_of_lt_of_le hk h.size) (by omega)).trans (h.block k hk hn)⟩
theorem tok_end (toks : List Tk) (I : Nat) (ends : List ByteArray) (hE : inL ⟨#[]⟩ ends = false) (h : inL (tokS toks I) ends = true) : I < toks.length := by
 rcases Nat.lt_or_ge I toks.length with h1 | h1
 ·exact h1
 ·have : tokS toks I = ⟨#[]⟩ := by simp [tokS, List.getD, List.getElem?_eq_none h1]
  rw [this, hE] at h; cases h
theorem ends1 : inL ⟨#[]⟩ [tElse, tThen] = false := by decide +kernel
theorem ends2 : inL ⟨#[]⟩ [tThen] = false := by decide +kernel
theorem ends3 : inL ⟨#[]⟩ [tLoop] = false := by decide +kernel
theorem ends4 : inL ⟨#[]⟩ [tSemi] = false := by decide +kernel
end Go.Proofs.YtcphhbofjkenaaaGreatDoor
