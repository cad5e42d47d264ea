import Derived.Laws.MakeOwn
import Derived.Laws.OwnMore
import Derived.Lib.SliceRun
import Derived.Test.YtcphhbofjkenaaaGreatDoorV35
namespace Go.Proofs.YtcphhbofjkenaaaGreatDoor
set_option maxRecDepth 100000
set_option maxHeartbeats 16000000
open Go Go.RowKit
set_option linter.unusedVariables false
set_option linter.unusedSimpArgs false
attribute [local go_sem] quietG
end Go.Proofs.YtcphhbofjkenaaaGreatDoor
namespace Go.Proofs.YtcphhbofjkenaaaGreatDoor
set_option maxRecDepth 100000
set_option maxHeartbeats 16000000
open Go Go.RowKit
set_option linter.unusedVariables false
set_option linter.unusedSimpArgs false
section
attribute [local go_sem] quietG
end
end Go.Proofs.YtcphhbofjkenaaaGreatDoor
namespace Go.Proofs.YtcphhbofjkenaaaGreatDoor
set_option maxRecDepth 100000
set_option maxHeartbeats 16000000
open Go Go.RowKit
set_option linter.unusedVariables false
set_option linter.unusedSimpArgs false
attribute [local go_sem] quietG
section
variable {w w' w2 : World} {n nn : Nat} {iv : Value} {p : Option (Nat × Nat)} {g1 g2 : Option Nat}
end
end Go.Proofs.YtcphhbofjkenaaaGreatDoor
namespace Go.Proofs.YtcphhbofjkenaaaGreatDoor
set_option maxRecDepth 100000
set_option maxHeartbeats 16000000
open Go Go.RowKit
set_option linter.unusedVariables false
set_option linter.unusedSimpArgs false
section
variable {es : List PE} {code : List Int} {ws : List RW} {nn : Nat} {l : List TK} {ins : List Int}
end
section
variable {ws : List RW} {l : List TK}
end
section
variable {es : List PE} {code : List Int} {ws : List RW} {l : List TK} {nn : Nat} {ins : List Int}
end
section
variable {es : List PE} {code : List Int} {ws : List RW} {l : List TK} {nn : Nat}
structure UnOk (ws : List RW) (nn : Nat) (l : List TK) (evs : List EV) (i : Nat) : Prop where
 er : (findI ws (l.getD i default).word).2 = 0
 en : (runD ws nn (l.getD i default).word [] [] (1000 : Int).toNat).2.1 = 0
 ol : (runD ws nn (l.getD i default).word [] [] (1000 : Int).toNat).2.2.2.outs.length ≤ 1000000
 un : ∃ c, unR i (runD ws nn (l.getD i default).word [] [] (1000 : Int).toNat).2.2.2.outs 0 evs = some c
theorem unseen_ok {nv nt : Int} {q : Nat} (hk : Alk es code ws) (hi : LInv es nv nt code) (hb : WsB ws) (hqc : QCode es code) (ha : (admitT ws l).1 = 0) (ht : ∀ t ∈ l, TkOk es q t) (h : Nat) : ∀ i, i < l.length → UnOk ws nn l (simS es code ws nn l [] h).es i := by
 intro i hil
 obtain ⟨s1, s2⟩ := sok (nn := nn) (ins := []) hk hi hb ha rfl
 obtain ⟨b1, b2⟩ := admit_resp ha
 obtain ⟨_, a2, _, _⟩ := admit_ok ha
 have hll : (loadsT ws l).length = l.length := by unfold loadsT; rw [List.length_map]
 have hlo := loads_ok hk.toAlike b1
 have e : l.getD i default = l[i] := by simp [hil]
 obtain ⟨w1, ⟨f1, f2, f3, f4, f5, f6⟩, w3, w4⟩ := wrong_fits (b1 l[i] (List.getElem_mem hil))
 have hdl : (l.getD i default).dl ≤ 1000000 := by rw [e]; omega
 have hcr := cost_resp hlo (by omega) (by omega) hdl (b2 i hil)
 have hrp := resp_pos hlo (by omega) (by omega) hdl (b2 i hil)
 obtain ⟨r1, r2⟩ := resp_ok (b2 i hil)
 obtain ⟨_, ⟨x, x1, x2, _, _, x5, _⟩, _⟩ := ht l[i] (List.getElem_mem hil)
 have hso : startOf (lastP es l[i].word es.length) = some x.place := by rw [x1]; simp [startOf, x2]
 obtain ⟨p, hp, hp1, hp2⟩ := hqc.c.2 x (last_in (Nat.le_refl _) x1).1 x2
 obtain ⟨t, ht0⟩ : ∃ t : JT, t = ⟨l[i].word, l[i].per, l[i].dl, l[i].off, p⟩ := ⟨_, rfl⟩
 have hti : (tsOf es l)[i]? = some t := by
  unfold tsOf
  rw [List.getElem?_map, List.getElem?_eq_getElem hil, ht0]
  simp [hso, hp]
 have hst : t.st = p := by rw [ht0]
 obtain ⟨R, hR⟩ : ∃ R : Nat, respAt (loadsT ws l) l i = R := ⟨(respAt (loadsT ws l) l i).toNat, by omega⟩
 rw [hR] at r1 r2
 rw [e] at r2
 have hRT : (R : Int) ≤ t.per := by rw [ht0]; show (R : Int) ≤ l[i].per; omega
 obtain ⟨y, qe, c1, c2, c3, c4⟩ := s1.ok i t hti
 have c1 : CList es code false y.its t.st qe := c1
 have c3 : t.st < code.length := c3
 obtain ⟨N, hN, hX⟩ := xrun_of hk.coded hk.toAlike hqc _ 0 _ (beginM t.st) ⟨⟨false, .last _ t.st qe ⟨rfl, c1.most (by omega)⟩ (by simpa using c1) c2⟩, ⟨(fun a ha => by cases ha), (fun a ha => by cases ha), (fun a ha => by cases ha), Nat.zero_le _⟩, Nat.zero_le _, Nat.zero_le _, Nat.zero_le _, by simp⟩ c4 ⟨by show Cut code t.st; rw [hst]; exact ⟨hp1, hp2⟩, fun c hc => by cases hc⟩
 have hfe := find_eq hk.toAlike l[i].word
 rw [x1] at hfe
 simp [findRes, x2, Inf.val] at hfe
 obtain ⟨⟨_, _, _, g4, _⟩, g6⟩ := hfe
 have hN5 : N < 1000 := by
  have : (costAt (loadsT ws l) i).toNat ≤ 500 := by rw [(loads_at hil).1, e]; omega
  have : N < (costAt (loadsT ws l) i).toNat := hN
  omega
 have hm : mayR [] [] 1000 = true := by decide
 obtain ⟨p', m0, m1, m2, m3, _, m5, _⟩ := runD_runM hk (x := l[i].word) (st := []) (ins := []) (f := 1000) w1 hm nn
 rw [hso, hp] at m0
 obtain rfl : p' = p := by have := Option.some.inj m0; omega
 have hru := hX.runs (f := (1000 : Int).toNat) (show N < (1000 : Int).toNat by omega) ⟨List.replicate nn 0, [], []⟩
 rw [hst] at hru
 rw [show (⟨([] : List Int).reverse, [], [], p'⟩ : MS) = beginM p' from rfl, hru] at m2 m3
 simp only at m2 m3
 have hO : (runD ws nn l[i].word [] [] (1000 : Int).toNat).2.2.2.outs = xO code (beginM p') (N + 1) := by rw [← m3]; rfl
 refine ⟨by rw [e]; exact w1, by rw [e]; exact m2.symm, by rw [e]; exact m5, ?_⟩
 rw [e, hO, ← hst]
 obtain ⟨c, hc, _⟩ := unseen_at s1 s2 (ls := loadsT ws l) hti r1 hRT hX h
 exact ⟨c, hc⟩
end
attribute [local go_sem] quietG
section
variable {K : RQ → Prop} {lo : Nat} {w0 w w' : World} {bb : Nat} {ev cv : Value} {R : List PE × Int × Int × List Int} {ws : List RW} {mb : Nat} {mc : Array Value} {q : Nat} {v : Value} {tl : List TK}
end
end Go.Proofs.YtcphhbofjkenaaaGreatDoor
namespace Go.Proofs.YtcphhbofjkenaaaGreatDoor
set_option maxRecDepth 100000
set_option maxHeartbeats 16000000
open Go Go.RowKit
set_option linter.unusedVariables false
set_option linter.unusedSimpArgs false
section
variable {ws : List RW} {l : List TK}
end
section
variable {es : List PE} {code : List Int} {ws : List RW} {l : List TK} {nn : Nat} {ins : List Int}
end
end Go.Proofs.YtcphhbofjkenaaaGreatDoor
