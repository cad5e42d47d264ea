import Derived.Deep.AppendLies
import Derived.Test.YtcphhbofjkenaaaGreatDoorU38
namespace Go.Proofs.YtcphhbofjkenaaaGreatDoor
open Go Go.RowKit
set_option linter.unusedVariables false
set_option linter.unusedSimpArgs false
section
variable {P : Program} {ops : Array Oper} {md : Region.Mode} {C : Option Nat → World → Prop}
end
section
variable {P : Program} {ops : Array Oper} {md : Region.Mode} {σ : Type} {C : σ → World → Prop} {Q : Exit → Act → World → Prop}
end
section
variable {P : Program} {ops : Array Oper} {σ : Type} {C : σ → World → Prop} {Q : Exit → Act → World → Prop}
end
section
variable {P : Program} {ops : Array Oper} {md : Region.Mode} {σ : Type} {C : σ → World → Prop} {Q : Exit → Act → World → Prop}
end
section
variable {P : Program} {ops : Array Oper} {σ : Type} {C : σ → World → Prop} {L : σ → Act → Prop} {s : σ} {a : Act} {k k2 k3 : Nat} {t t2 t3 : Tr}
end
section
variable {P : Program} {ops : Array Oper} {C : World → Prop}
end
section
variable {P : Program} {ops : Array Oper} {md : Region.Mode} {σ : Type} {C : σ → World → Prop} {Q : Exit → Act → World → Prop}
inductive Te
  | fin
  | quiet (k : Nat) (t : Te)
  | either (k : Nat) (t : Te)
def Te.row : List Nat → Te → Te
  | [], t => t
  | k :: l, t => .quiet k (Te.row l t)
def wpE (P : Program) (ops : Array Oper) (C : σ → World → Prop) (L : σ → Act → Prop) : Te → σ → Act → Prop
  | .fin, s, a => L s a
  | .quiet k t, s, a => gOp P ops C k (wpE P ops C L t s) a
  | .either k t, s, a => dOp P ops C k s (wpE P ops C L t) a ∨ gOp P ops C k (wpE P ops C L t s) a
def chkE (md : Region.Mode) (ops : Array Oper) (n : Nat) : Nat → Te → Array Bool → Bool
  | f, .fin, listed => Region.seqB md ops (ops.size - n) n listed && f == 0
  | 0, _, _ => false
  | f + 1, .quiet k t, listed => decide (k < n) && (Region.ready md ops listed).contains k && Region.free md ops listed k && (ops[k]?).isSome && chkE md ops n f t (listed.setIfInBounds k true)
  | f + 1, .either k t, listed => decide (k < n) && decide (Region.ready md ops listed = [k]) && chkE md ops n f t (listed.setIfInBounds k true)
theorem wpH_of_E {n : Nat} {L : σ → Act → Prop} (hsel : Region.noSelect ops = true) (hs : Region.sinkB md ops n = true) (hc : Region.chainB md ops n = true) (hn : n < ops.size) : ∀ (f : Nat) (t : Te) (s : σ) (listed : Array Bool) (a : Act), HeadInv md ops n listed → chkE md ops n f t listed = true → wpE P ops C L t s a →
    wpH P md ops C n (fun s' listed' a' => Region.seqB md ops (ops.size - n) n listed' = true ∧ L s' a') f s listed a
  | f, .fin, s, listed, a, _, hB, h => by
    unfold chkE at hB
    simp only [Bool.and_eq_true, beq_iff_eq] at hB
    obtain ⟨hB, rfl⟩ := hB
    exact ⟨hB, h⟩
  | 0, .quiet _ _, _, _, _, _, hB, _ => by simp [chkE] at hB
  | 0, .either _ _, _, _, _, _, hB, _ => by simp [chkE] at hB
  | f + 1, .quiet k t, s, listed, a, inv, hB, h => by
    unfold chkE at hB
    simp only [Bool.and_eq_true, decide_eq_true_eq] at hB
    obtain ⟨⟨⟨⟨hkn, b2⟩, b3⟩, b4⟩, hB2⟩ := hB
    have hr : k ∈ Region.ready md ops listed := by simpa using b2
    obtain ⟨o, ho⟩ := Option.isSome_iff_exists.1 b4
    obtain ⟨v, hy, hK⟩ := yieldsG_of_gOp ho h
    exact wpH_first ho (Region.noSelect_spec hsel) hs hc hn hkn (fun s' listed' a' hL => seqB_ready hL.1) f s listed a inv (Region.free_spec ho b3) hr hy (wpH_of_E hsel hs hc hn f t s _ _ (inv.set hr hkn) hB2 hK)
  | f + 1, .either k t, s, listed, a, inv, hB, h => by
    unfold chkE at hB
    simp only [Bool.and_eq_true, decide_eq_true_eq] at hB
    obtain ⟨⟨h1, hr⟩, c1⟩ := hB
    refine ⟨fun h0 => (by rw [hr] at h0; cases h0), fun i hi => ?_⟩
    have hi' := hi
    rw [hr] at hi
    obtain rfl : i = k := by simpa using hi
    refine ⟨h1, ?_⟩
    rcases h with h | h
    · exact Or.inl (dOp_mono (fun s' a' h' => wpH_of_E hsel hs hc hn f t s' _ a' (inv.set hi' h1) c1 h') h)
    · exact Or.inr (gOp_mono (fun a' h' => wpH_of_E hsel hs hc hn f t s _ a' (inv.set hi' h1) c1 h') h)
theorem wp_region_either {id : Nat} {a : Act} {w : World} {l : List Oper} (n : Nat) (t : Te) (s : σ) (hmx : P.follows .mixedOrders = true)
    (hB : (chkE .any l.toArray n n t (Array.replicate l.toArray.size false) && decide (n < l.toArray.size) && Region.noSelect l.toArray && Region.sinkB .any l.toArray n && Region.chainB .any l.toArray n) = true)
    (hC : C s { w with drawn := w.drawn + 1 }) (h : wpE P l.toArray C (fun s' a' => ∀ w', C s' w' → wpList P l.toArray Q (l.drop n) a' w') t s a) : (Code.region id l.toArray true).wp P Q a w := by
  simp only [Bool.and_eq_true, decide_eq_true_eq] at hB
  obtain ⟨⟨⟨⟨h1, hn⟩, h3⟩, hs⟩, hc⟩ := hB
  have inv0 : HeadInv .any l.toArray n (Array.replicate l.toArray.size false) :=
    ⟨by simp, fun j oj _ hl => (by rw [getD_replicate_false] at hl; cases hl), fun t _ ht => getD_in (by simpa using ht) (getD_replicate_false _ _)⟩
  have hdl : (l.drop n).length = l.toArray.size - n := by simp
  refine wp_region_any hmx ?_
  have := wpAny_of_H (md := .any) (Q := Q) (g := l.toArray.size - n) (fun s' listed a' w' hw' hL => by
    have := wpAny_of_seq (md := .any) (Q' := Q) (l.drop n) n listed a' w' (fun j => by simp [List.getElem?_drop]) (by rw [hdl]; exact hL.1) (hL.2 w' hw')
    rwa [hdl] at this) n s _ a _ hC (wpH_of_E h3 hs hc hn n t s _ a inv0 h1 h)
  rw [show n + (l.toArray.size - n) = l.toArray.size by omega] at this
  exact this
theorem wpE_step {k : Nat} {t : Te} {s : σ} {a : Act} {o : Oper} {L : σ → Act → Prop} (hk : ops[k]? = some o)
    (h : ∀ K : Act → Prop, (∀ a, wpE P ops C L t s a → K a) → if Region.wanted o (yielded ops a.tmps) then quietG P o a C K else K (a.put o.dst undef)) : wpE P ops C L (.quiet k t) s a := by
  unfold wpE gOp
  simp only [hk]
  exact h _ (fun _ h => h)
theorem wpE_none {k : Nat} {t : Te} {s : σ} {a : Act} {o : Oper} {L : σ → Act → Prop} (hk : ops[k]? = some o)
    (h : ∀ K : Act → Prop, (∀ a, wpE P ops C L t s a → K a) → if Region.wanted o (yielded ops a.tmps) then quietG P o a C K else K (a.put o.dst undef)) : wpE P ops C L (.either k t) s a := by
  unfold wpE
  refine Or.inr ?_
  unfold gOp
  simp only [hk]
  exact h _ (fun _ h => h)
theorem wpE_call {k : Nat} {t : Te} {s : σ} {a : Act} {L : σ → Act → Prop} (h : dOp P ops C k s (wpE P ops C L t) a) : wpE P ops C L (.either k t) s a := by
  unfold wpE
  exact Or.inl h
theorem wpE_fin {s : σ} {a : Act} {L : σ → Act → Prop} (h : L s a) : wpE P ops C L .fin s a := h
end
end Go.Proofs.YtcphhbofjkenaaaGreatDoor
