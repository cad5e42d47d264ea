import Derived.Deep.AppendLies
import Derived.Test.YtcphhbofjkenaaaGreatDoorU00
import Derived.Test.YtcphhbofjkenaaaGreatDoorU01
namespace Go.Proofs.YtcphhbofjkenaaaGreatDoor
open Go Go.RowKit
set_option linter.unusedVariables false
set_option linter.unusedSimpArgs false
section
variable {P : Program} {ops : Array Oper} {md : Region.Mode} {C : Option Nat → World → Prop}
def quietF (P : Program) (o : Oper) (a : Act) (C : Option Nat → World → Prop) (next : Act → Prop) : Prop := ∃ v, (∀ S w, C S w → o.quietAt P a (C S) w v) ∧ next (a.put o.dst v)
def wpQuietF (P : Program) (ops : Array Oper) (C : Option Nat → World → Prop) (Q : Act → Prop) : List Oper → Act → Prop
 | [], a => Q a
 | o :: rest, a => if Region.wanted o (yielded ops a.tmps) then quietF P o a C (wpQuietF P ops C Q rest) else wpQuietF P ops C Q rest (a.put o.dst undef)
theorem wpQuietF_nil {Q : Act → Prop} {a : Act} (h : Q a) : wpQuietF P ops C Q [] a := h
theorem wpQuietF_step {Q : Act → Prop} {a : Act} {o : Oper} {rest : List Oper}
  (h : ∀ K : Act → Prop, (∀ a, wpQuietF P ops C Q rest a → K a) → if Region.wanted o (yielded ops a.tmps) then quietF P o a C K else K (a.put o.dst undef)) : wpQuietF P ops C Q (o :: rest) a :=
 h _ (fun _ h => h)
def YieldsF (P : Program) (ops : Array Oper) (C : Option Nat → World → Prop) (o : Oper) (v : Value) (a : Act) : Prop :=
 (Region.wanted o (yielded ops a.tmps) = true ∧ ∀ S w, C S w → o.quietAt P a (C S) w v) ∨
 (Region.wanted o (yielded ops a.tmps) = false ∧ v = undef)
theorem YieldsF.one {o : Oper} {v : Value} {a : Act} (h : YieldsF P ops C o v a) (S : Option Nat) : YieldsIn P ops (C S) o v a := by
 rcases h with ⟨h1, h2⟩ | h
 ·exact Or.inl ⟨h1, h2 S⟩
 ·exact Or.inr h
theorem YieldsF.of_same {o : Oper} {v : Value} {a a' : Act} (hy : YieldsF P ops C o v a) (he : execOp a'.eval o = execOp a.eval o)
  (hw : Region.wanted o (yielded ops a'.tmps) = Region.wanted o (yielded ops a.tmps)) : YieldsF P ops C o v a' := by
 unfold YieldsF Oper.quietAt at *
 rw [he, hw]
 exact hy
def fOp (P : Program) (ops : Array Oper) (C : Option Nat → World → Prop) (i : Nat) (K : Act → Prop) (a : Act) : Prop :=
 match ops[i]? with
 | none => K a
 | some o => if Region.wanted o (yielded ops a.tmps) then quietF P o a C K else K (a.put o.dst undef)
theorem fOp_mono {i : Nat} {a : Act} {K K' : Act → Prop} (h : ∀ a, K a → K' a) (hh : fOp P ops C i K a) : fOp P ops C i K' a := by
 unfold fOp at *
 split
 ·exact h _ (by simpa [*] using hh)
 ·rename_i o ho
  simp only [ho] at hh
  split
  ·rename_i hw; simp only [hw, if_true] at hh; obtain ⟨v, h1, h2⟩ := hh; exact ⟨v, h1, h _ h2⟩
  ·rename_i hw; simp only [hw] at hh; exact h _ hh
theorem YieldsF.fOp {i : Nat} {o : Oper} {v : Value} {a : Act} (hi : ops[i]? = some o) (hy : YieldsF P ops C o v a) {K : Act → Prop} (h : K (a.put o.dst v)) : fOp P ops C i K a := by
 unfold Go.Proofs.YtcphhbofjkenaaaGreatDoor.fOp
 simp only [hi]
 rcases hy with ⟨hw, hv⟩ | ⟨hw, rfl⟩
 ·simp only [hw, if_true]; exact ⟨v, hv, h⟩
 ·simp only [hw, Bool.false_eq_true, if_false]; exact h
theorem yieldsF_of_fOp {i : Nat} {o : Oper} {a : Act} {K : Act → Prop} (hi : ops[i]? = some o) (h : fOp P ops C i K a) : ∃ v, YieldsF P ops C o v a ∧ K (a.put o.dst v) := by
 unfold fOp at h
 simp only [hi] at h
 by_cases hw : Region.wanted o (yielded ops a.tmps) = true
 ·simp only [hw, if_true] at h
  obtain ⟨v, h1, h2⟩ := h
  exact ⟨v, .inl ⟨hw, h1⟩, h2⟩
 ·simp only [hw] at h
  exact ⟨undef, .inr ⟨by simpa using hw, rfl⟩, h⟩
theorem fOp_put {j : Nat} {oi oj : Oper} {v : Value} (hj : ops[j]? = some oj) (hap : oi.apart ops oj = true)
  (hsi : ∀ cs b, oi.op ≠ .select cs b) (hsj : ∀ cs b, oj.op ≠ .select cs b) {K : Act → Prop} {a : Act}
  (hy : YieldsF P ops C oi v a) (h : fOp P ops C j K (a.put oi.dst v)) :
  fOp P ops C j (fun a' => YieldsF P ops C oi v a' ∧ K (a'.put oi.dst v)) a := by
 obtain ⟨h1, h2, h3⟩ := Oper.apart_spec hap
 have keep : ∀ (a : Act), YieldsF P ops C oi v a → ∀ u, YieldsF P ops C oi v (a.put oj.dst u) := fun a hy u =>
  hy.of_same (execOp_put oi hsi a oj.dst u h3) (wanted_put oi a oj.dst u h3)
 unfold fOp at *
 simp only [hj] at *
 rw [wanted_put oj a oi.dst v h1] at h
 split
 ·rename_i hw
  simp only [hw, if_true] at h
  obtain ⟨u, hu, hn⟩ := h
  refine ⟨u, fun S w hw' => ?_, keep a hy u, by rw [← Act.put_comm a v u h2]; exact hn⟩
  have := hu S w hw'
  unfold Oper.quietAt at *
  rwa [execOp_put oj hsj a oi.dst v h1] at this
 ·rename_i hw
  simp only [hw] at h
  exact ⟨keep a hy _, by rw [← Act.put_comm a v undef h2]; exact h⟩
theorem wpOp_of_fOp {i : Nat} {a : Act} {K : Act → Prop} {K' : Act → World → Prop} {Q' : Exit → Act → World → Prop} {w : World} (S : Option Nat) (hC : C S w) (h : ∀ a w', C S w' → K a → K' a w') (hh : fOp P ops C i K a) : wpOp P ops Q' i K' a w := by
 refine wpOp_of_qOp (C := C S) (K := K) hC h ?_
 unfold fOp at hh
 unfold qOp
 split
 ·simpa [*] using hh
 ·rename_i o ho
  simp only [ho] at hh
  split
  ·rename_i hw; simp only [hw, if_true] at hh; obtain ⟨v, h1, h2⟩ := hh; exact ⟨v, h1 S, h2⟩
  ·rename_i hw; simp only [hw] at hh; exact hh
def ptrTo (b : Nat) : Value := .pointer (some ⟨b, 0, none⟩)
def wpHeadA (P : Program) (md : Region.Mode) (ops : Array Oper) (C : Option Nat → World → Prop) (G : Nat → Prop) (n m : Nat) (d : Option Nat) (L : Nat → Array Bool → Act → Prop) : Nat → Array Bool → Act → Prop
 | 0, listed, a => Region.ready md ops listed = [m] ∧ ∀ b, G b → L b (listed.setIfInBounds m true) (a.put d (ptrTo b))
 | f + 1, listed, a =>
  Region.ready md ops listed ≠ [] ∧ ∀ i ∈ Region.ready md ops listed, i < n ∧
   (i = m → ∀ b, G b → wpHeadQ P md ops (C (some b)) n (L b) (f + 1) (listed.setIfInBounds m true) (a.put d (ptrTo b))) ∧
   (i ≠ m → fOp P ops C i (wpHeadA P md ops C G n m d L f (listed.setIfInBounds i true)) a)
theorem wpAny_of_headA {G : Nat → Prop} {n m g : Nat} {om : Oper} {z : Obj} {L : Nat → Array Bool → Act → Prop} {Q' : Exit → Act → World → Prop}
  (hm : ops[m]? = some om) (hwant : ∀ a, Region.wanted om (yielded ops a) = true)
  (hrun : ∀ a w, (execOp (Act.eval a) om).run P w = .ok (.value (ptrTo w.heap.size)) (w.alloc z))
  (hal : ∀ w, C none w → G w.heap.size ∧ C (some w.heap.size) (w.alloc z))
  (hL : ∀ b listed a w, C (some b) w → L b listed a → wpAny P md ops Q' g listed a w) :
  ∀ (f : Nat) (listed : Array Bool) (a : Act) (w : World), C none w → wpHeadA P md ops C G n m om.dst L f listed a → wpAny P md ops Q' (f + 1 + g) listed a w := by
 have alloc : ∀ (a : Act) (w : World) (K' : Act → World → Prop), C none w → (∀ w', G w.heap.size → C (some w.heap.size) w' → K' (a.put om.dst (ptrTo w.heap.size)) w') → wpOp P ops Q' m K' a w := by
  intro a w K' hw hk
  unfold wpOp
  simp only [hm]
  rw [hwant a.tmps]
  simp only [if_true]
  refine .inl ?_
  unfold Oper.wp
  rw [hrun a w]
  exact hk _ (hal w hw).1 (hal w hw).2
 intro f
 induction f with
 | zero =>
  intro listed a w hw h
  rw [show 0 + 1 + g = g + 1 by omega]
  refine ⟨fun h0 => (by rw [h.1] at h0; cases h0), fun i hi => ?_⟩
  rw [h.1] at hi
  have : i = m := by simpa using hi
  subst this
  exact alloc a w _ hw fun w' hg hw' => hL _ _ _ _ hw' (h.2 _ hg)
 | succ f ih =>
  intro listed a w hw h
  rw [show f + 1 + 1 + g = (f + 1 + g) + 1 by omega]
  refine ⟨fun h0 => absurd h0 h.1, fun i hi => ?_⟩
  obtain ⟨hin, hA, hB⟩ := h.2 i hi
  by_cases him : i = m
  ·subst him
   exact alloc a w _ hw fun w' hg hw' => wpAny_of_headQ (fun listed a w hw hl => hL _ listed a w hw hl) (f + 1) _ _ _ hw' (hA rfl _ hg)
  ·exact wpOp_of_fOp none hw (fun a' w' hw' h' => ih _ a' w' hw' h') (hB him)
theorem wpHeadA_first {G : Nat → Prop} {n m k : Nat} {ok om : Oper} {v : Value} {L : Nat → Array Bool → Act → Prop} (hk : ops[k]? = some ok) (hm : ops[m]? = some om) (hkm : k ≠ m)
  (hsel : ∀ (j : Nat) (o : Oper) cs b, ops[j]? = some o → o.op ≠ .select cs b)
  (hs : Region.sinkB md ops n = true) (hc : Region.chainB md ops n = true) (hn : n < ops.size) (hkn : k < n) (hmn : m < n)
  (hdone : ∀ b listed a, L b listed a → ∀ j ∈ Region.ready md ops listed, n ≤ j) :
  ∀ (f : Nat) (listed : Array Bool) (a : Act), HeadInv md ops n listed → listed.getD m true = false →
   (∀ j oj, ops[j]? = some oj → j ≠ k → listed.getD j true = false → (∀ e ∈ oj.after, Region.binds md e = true → e.on ≠ k) → ok.apart ops oj = true) →
   k ∈ Region.ready md ops listed → YieldsF P ops C ok v a →
   wpHeadA P md ops C G n m om.dst L f (listed.setIfInBounds k true) (a.put ok.dst v) → wpHeadA P md ops C G n m om.dst L (f + 1) listed a := by
 intro f
 induction f with
 | zero =>
  intro listed a inv hml hfree hr hy H
  have hun := (mem_ready.1 hr).1
  refine ⟨fun h => (by rw [h] at hr; cases hr), fun j hj => ?_⟩
  by_cases hjk : j = k
  ·subst hjk
   exact ⟨hkn, fun e => absurd e hkm, fun _ => hy.fOp hk H⟩
  ·have hj2 := ready_mono hj hjk
   rw [H.1] at hj2
   have hjm : j = m := by simpa using hj2
   subst hjm
   refine ⟨hmn, fun _ b hg => ?_, fun e => absurd rfl e⟩
   obtain ⟨_, oj, hoj, hall⟩ := mem_ready.1 hj
   have hoje : oj = om := Option.some.inj (hoj.symm.trans hm)
   subst hoje
   have hnot : ∀ e ∈ oj.after, Region.binds md e = true → e.on ≠ k := fun e he hb heq => by
    have h1 := hall e he hb
    rw [heq, getD_both hun] at h1
    cases h1
   have hap := hfree j oj hoj (Ne.symm hkm) hml hnot
   obtain ⟨p1, p2, p3⟩ := Oper.apart_spec hap
   have hy2 : YieldsF P ops C ok v (a.put oj.dst (ptrTo b)) := hy.of_same (execOp_put ok (fun cs b => hsel k ok cs b hk) a oj.dst _ p3) (wanted_put ok a oj.dst _ p3)
   refine wpHeadQ_first hk hsel hs hc hn hkn (hdone b) 0 _ _ (inv.set hj hmn) (fun i oi hi hik hun' hno => ?_) (ready_mono hr (Ne.symm hjk)) (hy2.one _) ?_
   ·refine hfree i oi hi hik ?_ hno
    by_cases hij : j = i
    ·subst hij; exact hml
    ·rw [getD_set_ne true hij] at hun'; exact hun'
   ·have := H.2 b hg
    rw [Array.setIfInBounds_comm _ _ hjk]
    rw [← Act.put_comm a v _ p2]
    exact this
 | succ f ih =>
  intro listed a inv hml hfree hr hy H
  have hun := (mem_ready.1 hr).1
  refine ⟨fun h => (by rw [h] at hr; cases hr), fun j hj => ?_⟩
  by_cases hjk : j = k
  ·subst hjk
   exact ⟨hkn, fun e => absurd e hkm, fun _ => hy.fOp hk H⟩
  ·obtain ⟨hjn, hA, hB⟩ := H.2 j (ready_mono hj hjk)
   obtain ⟨hjun, oj, hoj, hall⟩ := mem_ready.1 hj
   have hnot : ∀ e ∈ oj.after, Region.binds md e = true → e.on ≠ k := fun e he hb heq => by
    have h1 := hall e he hb
    rw [heq, getD_both hun] at h1
    cases h1
   refine ⟨hjn, fun hjm b hg => ?_, fun hjm => ?_⟩
   ·subst hjm
    have hoje : oj = om := Option.some.inj (hoj.symm.trans hm)
    subst hoje
    have hap := hfree j oj hoj (Ne.symm hkm) hml hnot
    obtain ⟨p1, p2, p3⟩ := Oper.apart_spec hap
    have hy2 : YieldsF P ops C ok v (a.put oj.dst (ptrTo b)) := hy.of_same (execOp_put ok (fun cs b => hsel k ok cs b hk) a oj.dst _ p3) (wanted_put ok a oj.dst _ p3)
    refine wpHeadQ_first hk hsel hs hc hn hkn (hdone b) (f + 1) _ _ (inv.set hj hmn) (fun i oi hi hik hun' hno => ?_) (ready_mono hr (Ne.symm hjk)) (hy2.one _) ?_
    ·refine hfree i oi hi hik ?_ hno
     by_cases hij : j = i
     ·subst hij; exact hml
     ·rw [getD_set_ne true hij] at hun'; exact hun'
    ·have := hA rfl b hg
     rw [Array.setIfInBounds_comm _ _ hjk]
     rw [← Act.put_comm a v _ p2]
     exact this
   ·have h1 := hB hjm
    have h2 := fOp_put hoj (hfree j oj hoj hjk hjun hnot) (fun cs b => hsel k ok cs b hk) (fun cs b => hsel j oj cs b hoj) hy h1
    have hfree' : ∀ i oi, ops[i]? = some oi → i ≠ k → (listed.setIfInBounds j true).getD i true = false →
      (∀ e ∈ oi.after, Region.binds md e = true → e.on ≠ k) → ok.apart ops oi = true := fun i oi hi hik hun' hno => by
     refine hfree i oi hi hik ?_ hno
     by_cases hji : j = i
     ·subst hji; exact hjun
     ·rw [getD_set_ne true hji] at hun'; exact hun'
    refine fOp_mono (fun a' h3 => ih (listed.setIfInBounds j true) a' (inv.set hj hjn) (by rw [getD_set_ne true hjm]; exact hml) hfree' (ready_mono hr (Ne.symm hjk)) h3.1 ?_) h2
    rw [Array.setIfInBounds_comm _ _ hjk]
    exact h3.2
def lexHeadA (md : Region.Mode) (ops : Array Oper) (g m : Nat) : Nat → Nat → Array Bool → Bool
 | 0, _, listed => decide (Region.ready md ops listed = [m]) && Region.seqB md ops g (m + 1) (listed.setIfInBounds m true)
 | f + 1, k, listed => (Region.ready md ops listed).contains k && Region.free md ops listed k && lexHeadA md ops g m f (k + 1) (listed.setIfInBounds k true)
def lexTailA (md : Region.Mode) (ops : Array Oper) (m : Nat) : Bool :=
 Region.noSelect ops && decide (m + 1 < ops.size) && Region.sinkB md ops (m + 1) && Region.chainB md ops (m + 1) && lexHeadA md ops (ops.size - (m + 1)) m m 0 (Array.replicate ops.size false)
theorem wpHeadA_lex {G : Nat → Prop} {m g : Nat} {om : Oper} {Lq : Nat → Act → Prop} (hm : ops[m]? = some om) (hsel : Region.noSelect ops = true) (hs : Region.sinkB md ops (m + 1) = true) (hc : Region.chainB md ops (m + 1) = true) (hn : m + 1 < ops.size) :
  ∀ (l : List Oper) (k : Nat) (listed : Array Bool) (a : Act), (∀ j, j < l.length → l[j]? = ops[k + j]?) → k + l.length = m → HeadInv md ops (m + 1) listed → listed.getD m true = false →
  lexHeadA md ops g m l.length k listed = true → wpQuietF P ops C (fun a' => ∀ b, G b → Lq b (a'.put om.dst (ptrTo b))) l a →
  wpHeadA P md ops C G (m + 1) m om.dst (fun b listed' a' => Region.seqB md ops g (m + 1) listed' = true ∧ Lq b a') l.length listed a
 | [], k, listed, a, _, hk, _, _, hB, h => by
  simp only [List.length_nil, lexHeadA, Bool.and_eq_true, decide_eq_true_eq] at hB
  exact ⟨hB.1, fun b hg => ⟨hB.2, h b hg⟩⟩
 | o :: l, k, listed, a, hl, hk, inv, hml, hB, h => by
  have h0 : ops[k]? = some o := by simpa using (hl 0 (by simp)).symm
  simp only [List.length_cons, lexHeadA, Bool.and_eq_true] at hB
  obtain ⟨⟨hr, hf⟩, hB'⟩ := hB
  have hkm : k < m := by simp only [List.length_cons] at hk; omega
  have hr' : k ∈ Region.ready md ops listed := by simpa using hr
  have hst : fOp P ops C k (wpQuietF P ops C (fun a' => ∀ b, G b → Lq b (a'.put om.dst (ptrTo b))) l) a := by unfold fOp; simp only [h0]; exact h
  obtain ⟨v, hy, hK⟩ := yieldsF_of_fOp h0 hst
  exact wpHeadA_first h0 hm (by omega) (Region.noSelect_spec hsel) hs hc hn (by omega) (by omega) (fun b listed' a' hL => seqB_ready hL.1) l.length listed a inv hml (Region.free_spec h0 hf) hr' hy
   (wpHeadA_lex hm hsel hs hc hn l (k + 1) _ _ (fun j hj => by have := hl (j + 1) (by simp; omega); simpa [Nat.add_assoc, Nat.add_comm 1 j] using this) (by simp only [List.length_cons] at hk; omega) (inv.set hr' (by omega)) (by rw [getD_set_ne true (by omega)]; exact hml) hB' hK)
theorem wp_region_alloc {G : Nat → Prop} {id : Nat} {Q : Exit → Act → World → Prop} {a : Act} {w : World} {l : List Oper} {om : Oper} {z : Obj} (m : Nat) (hmx : P.follows .mixedOrders = true) (hB : lexTailA .any l.toArray m = true)
  (hom : l[m]? = some om) (hwant : ∀ t, Region.wanted om (yielded l.toArray t) = true)
  (hrun : ∀ a w, (execOp (Act.eval a) om).run P w = .ok (.value (ptrTo w.heap.size)) (w.alloc z))
  (hal : ∀ w, C none w → G w.heap.size ∧ C (some w.heap.size) (w.alloc z)) (hC : C none { w with drawn := w.drawn + 1 })
  (h : wpQuietF P l.toArray C (fun a' => ∀ b, G b → ∀ w', C (some b) w' → wpList P l.toArray Q (l.drop (m + 1)) (a'.put om.dst (ptrTo b)) w') (l.take m) a) : (Code.region id l.toArray true).wp P Q a w := by
 simp only [lexTailA, Bool.and_eq_true, decide_eq_true_eq] at hB
 obtain ⟨⟨⟨⟨hsel, hn⟩, hs⟩, hc⟩, hlex⟩ := hB
 have hn' : m + 1 < l.length := by simpa using hn
 have htl : (l.take m).length = m := by simp; omega
 have hdl : (l.drop (m + 1)).length = l.toArray.size - (m + 1) := by simp
 have inv0 : HeadInv .any l.toArray (m + 1) (Array.replicate l.toArray.size false) :=
  ⟨by simp, fun j oj _ hl => (by rw [getD_replicate_false] at hl; cases hl), fun t _ ht => getD_in (by simpa using ht) (getD_replicate_false _ _)⟩
 have hm0 : (Array.replicate l.toArray.size false).getD m true = false := getD_in (by simp; omega) (getD_replicate_false _ _)
 have H := wpHeadA_lex (md := .any) (C := C) (P := P) (Lq := fun b a' => ∀ w', C (some b) w' → wpList P l.toArray Q (l.drop (m + 1)) a' w') (g := l.toArray.size - (m + 1)) (om := om) (by simpa using hom) hsel hs hc hn (l.take m) 0 _ a (fun j hj => by
  have hj' : j < m := by rw [htl] at hj; exact hj
  simp [hj']) (by simpa using htl) inv0 hm0 (by rw [htl]; exact hlex) h
 refine wp_region_any hmx ?_
 have := wpAny_of_headA (md := .any) (Q' := Q) (g := l.toArray.size - (m + 1)) (m := m) (by simpa using hom) hwant hrun hal (fun b listed a' w' hw' hL => by
  have := wpAny_of_seq (md := .any) (Q' := Q) (l.drop (m + 1)) (m + 1) listed a' w' (fun j => by simp [List.getElem?_drop]) (by rw [hdl]; exact hL.1) (hL.2 w' hw')
  rwa [hdl] at this) _ _ _ _ hC H
 rw [htl, show m + 1 + (l.toArray.size - (m + 1)) = l.toArray.size by omega] at this
 exact this
end
structure UndA (B : Nat) (W : World) (cs : Array Value) (T : TypeId) (S : Option Nat) where
 val : World
 below : Below B W val
 blk : ∀ b, S = some b → B ≤ b → Blk val b cs T
theorem UndA.ne (B : Nat) (W : World) (cs : Array Value) (T : TypeId) (hB : B ≤ W.heap.size) (S : Option Nat) : Nonempty (UndA B W cs T S) := by
 cases S with
 | none => exact ⟨⟨W, Below.refl B W, fun b h => by cases h⟩⟩
 | some b =>
  by_cases hb : B ≤ b
  ·refine ⟨⟨{ W with heap := (W.heap ++ Array.replicate (b + 1) (Obj.cells cs T (0, 0))).setIfInBounds b (Obj.cells cs T (0, 0)) }, ⟨rfl, rfl, rfl, by simp, fun k hk => ?_⟩, fun b' h _ => ?_⟩⟩
   ·show ((W.heap ++ Array.replicate (b + 1) (Obj.cells cs T (0, 0))).setIfInBounds b (Obj.cells cs T (0, 0)))[k]? = _
    rw [Array.getElem?_setIfInBounds_ne (by omega), Array.getElem?_append_left (by omega)]
   ·obtain rfl : b = b' := by simpa using h
    show ((W.heap ++ Array.replicate (b + 1) (Obj.cells cs T (0, 0))).setIfInBounds b (Obj.cells cs T (0, 0)))[b]? = _
    rw [Array.getElem?_setIfInBounds_self_of_lt (by simp; omega)]
  ·exact ⟨⟨W, Below.refl B W, fun b' h h2 => by cases h; exact absurd h2 hb⟩⟩
theorem UndA.cell {B : Nat} {W : World} {cs : Array Value} {T : TypeId} {S : Option Nat} (u : UndA B W cs T S) {p : Addr} {v : Value} (h : W.cell? p = some v) (hp : p.block < B) : u.val.cell? p = some v := (u.below.cell hp).trans h
theorem UndA.calls {P : Program} {f : FuncId} {args : Array Value} {B : Nat} {W : World} {cs : Array Value} {T : TypeId} {v : Value} (hB : B ≤ W.heap.size) {S : Option Nat} (u : UndA B W cs T S)
  (h : Calls P f args u.val fun e w' => e = .returned v ∧ Below u.val.heap.size u.val w') : Calls P f args u.val fun e w' => e = .returned v ∧ ∃ u' : UndA B W cs T S, w' = u'.val :=
 h.mono fun _ w' ⟨he, hb⟩ => ⟨he, ⟨⟨w', u.below.trans (hb.mono (Nat.le_trans hB u.below.size)), fun b hs hb' => (hb.block b (u.blk b hs hb').lt).trans (u.blk b hs hb')⟩, rfl⟩⟩
theorem wp_region_new {P : Program} {id : Nat} {Q : Exit → Act → World → Prop} {a : Act} {w : World} {l : List Oper} {om : Oper} (cs : Array Value) (T : TypeId) (m : Nat) (hmx : P.follows .mixedOrders = true) (hB : lexTailA .any l.toArray m = true)
  (hom : l[m]? = some om) (hwant : ∀ t, Region.wanted om (yielded l.toArray t) = true)
  (hrun : ∀ a w, (execOp (Act.eval a) om).run P w = .ok (.value (.pointer (some ⟨w.heap.size, 0, none⟩))) (w.alloc (.cells cs T (0, 0))))
  (h : wpQuietF P l.toArray (fun S w' => ∃ u : UndA w.heap.size w cs T S, w' = u.val) (fun a' => ∀ b w', w.heap.size ≤ b → Below w.heap.size w w' → Blk w' b cs T → wpList P l.toArray Q (l.drop (m + 1)) (a'.put om.dst (.pointer (some ⟨b, 0, none⟩))) w') (l.take m) a) : (Code.region id l.toArray true).wp P Q a w := by
 refine wp_region_alloc (C := fun S w' => ∃ u : UndA w.heap.size w cs T S, w' = u.val) (G := fun b => w.heap.size ≤ b) m hmx hB hom hwant hrun ?_ ⟨⟨w.drew, (Below.refl _ w).drew, fun b h => by cases h⟩, rfl⟩ ?_
 ·rintro w' ⟨u, rfl⟩
  refine ⟨u.below.size, ⟨⟨u.val.alloc (.cells cs T (0, 0)), u.below.alloc u.below.size _, fun b hs _ => ?_⟩, rfl⟩⟩
  obtain rfl : u.val.heap.size = b := by simpa using hs
  show (u.val.heap.push _)[u.val.heap.size]? = _
  simp
 ·have e : (fun a' : Act => ∀ b, w.heap.size ≤ b → ∀ w', (∃ u : UndA w.heap.size w cs T (some b), w' = u.val) → wpList P l.toArray Q (l.drop (m + 1)) (a'.put om.dst (ptrTo b)) w') = (fun a' : Act => ∀ b w', w.heap.size ≤ b → Below w.heap.size w w' → Blk w' b cs T → wpList P l.toArray Q (l.drop (m + 1)) (a'.put om.dst (.pointer (some ⟨b, 0, none⟩))) w') := by
   funext a'
   refine propext ⟨fun k b w' hb h1 h2 => k b hb w' ⟨⟨w', h1, fun b' hs _ => by cases hs; exact h2⟩, rfl⟩, fun k b hb w' ⟨u, hu⟩ => ?_⟩
   rw [hu]; exact k b u.val hb u.below (u.blk b rfl hb)
  rw [e]; exact h
section
variable {P : Program} {ops : Array Oper} {md : Region.Mode} {σ : Type} {C : σ → World → Prop} {Q : Exit → Act → World → Prop}
def quietG (P : Program) (o : Oper) (a : Act) (C : σ → World → Prop) (next : Act → Prop) : Prop := ∃ v, (∀ s w, C s w → o.quietAt P a (C s) w v) ∧ next (a.put o.dst v)
def YieldsG (P : Program) (ops : Array Oper) (C : σ → World → Prop) (o : Oper) (v : Value) (a : Act) : Prop :=
 (Region.wanted o (yielded ops a.tmps) = true ∧ ∀ s w, C s w → o.quietAt P a (C s) w v) ∨
 (Region.wanted o (yielded ops a.tmps) = false ∧ v = undef)
theorem YieldsG.of_same {o : Oper} {v : Value} {a a' : Act} (hy : YieldsG P ops C o v a) (he : execOp a'.eval o = execOp a.eval o)
  (hw : Region.wanted o (yielded ops a'.tmps) = Region.wanted o (yielded ops a.tmps)) : YieldsG P ops C o v a' := by
 unfold YieldsG Oper.quietAt at *
 rw [he, hw]
 exact hy
def gOp (P : Program) (ops : Array Oper) (C : σ → World → Prop) (i : Nat) (K : Act → Prop) (a : Act) : Prop :=
 match ops[i]? with
 | none => K a
 | some o => if Region.wanted o (yielded ops a.tmps) then quietG P o a C K else K (a.put o.dst undef)
theorem gOp_mono {i : Nat} {a : Act} {K K' : Act → Prop} (h : ∀ a, K a → K' a) (hh : gOp P ops C i K a) : gOp P ops C i K' a := by
 unfold gOp at *
 split
 ·exact h _ (by simpa [*] using hh)
 ·rename_i o ho
  simp only [ho] at hh
  split
  ·rename_i hw; simp only [hw, if_true] at hh; obtain ⟨v, h1, h2⟩ := hh; exact ⟨v, h1, h _ h2⟩
  ·rename_i hw; simp only [hw] at hh; exact h _ hh
theorem YieldsG.gOp {i : Nat} {o : Oper} {v : Value} {a : Act} (hi : ops[i]? = some o) (hy : YieldsG P ops C o v a) {K : Act → Prop} (h : K (a.put o.dst v)) : gOp P ops C i K a := by
 unfold Go.Proofs.YtcphhbofjkenaaaGreatDoor.gOp
 simp only [hi]
 rcases hy with ⟨hw, hv⟩ | ⟨hw, rfl⟩
 ·simp only [hw, if_true]; exact ⟨v, hv, h⟩
 ·simp only [hw, Bool.false_eq_true, if_false]; exact h
theorem yieldsG_of_gOp {i : Nat} {o : Oper} {a : Act} {K : Act → Prop} (hi : ops[i]? = some o) (h : gOp P ops C i K a) : ∃ v, YieldsG P ops C o v a ∧ K (a.put o.dst v) := by
 unfold gOp at h
 simp only [hi] at h
 by_cases hw : Region.wanted o (yielded ops a.tmps) = true
 ·simp only [hw, if_true] at h
  obtain ⟨v, h1, h2⟩ := h
  exact ⟨v, .inl ⟨hw, h1⟩, h2⟩
 ·simp only [hw] at h
  exact ⟨undef, .inr ⟨by simpa using hw, rfl⟩, h⟩
theorem gOp_put {j : Nat} {oi oj : Oper} {v : Value} (hj : ops[j]? = some oj) (hap : oi.apart ops oj = true)
  (hsi : ∀ cs b, oi.op ≠ .select cs b) (hsj : ∀ cs b, oj.op ≠ .select cs b) {K : Act → Prop} {a : Act}
  (hy : YieldsG P ops C oi v a) (h : gOp P ops C j K (a.put oi.dst v)) :
  gOp P ops C j (fun a' => YieldsG P ops C oi v a' ∧ K (a'.put oi.dst v)) a := by
 obtain ⟨h1, h2, h3⟩ := Oper.apart_spec hap
 have keep : ∀ (a : Act), YieldsG P ops C oi v a → ∀ u, YieldsG P ops C oi v (a.put oj.dst u) := fun a hy u =>
  hy.of_same (execOp_put oi hsi a oj.dst u h3) (wanted_put oi a oj.dst u h3)
 unfold gOp at *
 simp only [hj] at *
 rw [wanted_put oj a oi.dst v h1] at h
 split
 ·rename_i hw
  simp only [hw, if_true] at h
  obtain ⟨u, hu, hn⟩ := h
  refine ⟨u, fun s w hw' => ?_, keep a hy u, by rw [← Act.put_comm a v u h2]; exact hn⟩
  have := hu s w hw'
  unfold Oper.quietAt at *
  rwa [execOp_put oj hsj a oi.dst v h1] at this
 ·rename_i hw
  simp only [hw] at h
  exact ⟨keep a hy _, by rw [← Act.put_comm a v undef h2]; exact h⟩
theorem wpOp_of_gOp {i : Nat} {a : Act} {K : Act → Prop} {K' : Act → World → Prop} {w : World} (s : σ) (hC : C s w) (h : ∀ a w', C s w' → K a → K' a w') (hh : gOp P ops C i K a) : wpOp P ops Q i K' a w := by
 refine wpOp_of_qOp (C := C s) (K := K) hC h ?_
 unfold gOp at hh
 unfold qOp
 split
 ·simpa [*] using hh
 ·rename_i o ho
  simp only [ho] at hh
  split
  ·rename_i hw; simp only [hw, if_true] at hh; obtain ⟨v, h1, h2⟩ := hh; exact ⟨v, h1 s, h2⟩
  ·rename_i hw; simp only [hw] at hh; exact hh
def Turns (P : Program) (o : Oper) (a : Act) (w : World) (u : Value) (w' : World) : Prop :=
 (execOp a.eval o).run P w = .ok (.value u) w' ∨ ((execOp a.eval o).run P w = .ok .skip w' ∧ u = undef)
def TurnsR (P : Program) (o : Oper) (a : Act) (w : World) (R : Value → World → Prop) : Prop :=
 (∃ u w', Turns P o a w u w' ∧ R u w') ∨ ∃ f args w0, (execOp a.eval o).run P w = .ok (.enter f args) w0 ∧ Calls P f args w0 fun e w' => ∃ u, e = .returned u ∧ R u w'
theorem TurnsR.mono {o : Oper} {a : Act} {w : World} {R R' : Value → World → Prop} (h : TurnsR P o a w R) (hr : ∀ u w', R u w' → R' u w') : TurnsR P o a w R' := by
 rcases h with ⟨u, w', h1, h2⟩ | ⟨f, args, w0, h1, h2⟩
 ·exact Or.inl ⟨u, w', h1, hr _ _ h2⟩
 ·exact Or.inr ⟨f, args, w0, h1, h2.mono (fun e w' ⟨u, he, hu⟩ => ⟨u, he, hr _ _ hu⟩)⟩
theorem TurnsR.congr {o : Oper} {a a' : Act} {w : World} {R : Value → World → Prop} (h : TurnsR P o a w R) (he : execOp a.eval o = execOp a'.eval o) : TurnsR P o a' w R := by
 unfold TurnsR Turns at *
 rwa [← he]
def dOp (P : Program) (ops : Array Oper) (C : σ → World → Prop) (i : Nat) (s : σ) (K : σ → Act → Prop) (a : Act) : Prop :=
 ∃ o, ops[i]? = some o ∧ Region.wanted o (yielded ops a.tmps) = true ∧ ∀ w, C s w → TurnsR P o a w fun u w' => ∃ s', C s' w' ∧ K s' (a.put o.dst u)
theorem dOp_mono {i : Nat} {s : σ} {a : Act} {K K' : σ → Act → Prop} (h : ∀ s a, K s a → K' s a) (hh : dOp P ops C i s K a) : dOp P ops C i s K' a := by
 obtain ⟨o, h1, h2, h3⟩ := hh
 exact ⟨o, h1, h2, fun w hw => (h3 w hw).mono (fun u w' ⟨s', h5, h6⟩ => ⟨s', h5, h _ _ h6⟩)⟩
theorem wpOp_of_dOp {i : Nat} {s : σ} {a : Act} {w : World} {K : σ → Act → Prop} {K' : Act → World → Prop} (hC : C s w) (h : ∀ s' a w', C s' w' → K s' a → K' a w') (hh : dOp P ops C i s K a) : wpOp P ops Q i K' a w := by
 obtain ⟨o, h1, h2, h3⟩ := hh
 unfold wpOp
 simp only [h1, h2, if_true]
 refine .inl ?_
 unfold Oper.wp
 rcases h3 w hC with ⟨u, w', h4, s', h5, h6⟩ | ⟨f, args, w0, h4, h5⟩
 ·rcases h4 with h4 | ⟨h4, rfl⟩
  ·rw [h4]; exact h _ _ _ h5 h6
  ·rw [h4]; exact h _ _ _ h5 h6
 ·rw [h4, Oper.upon_enter]
  refine h5.mono ?_
  rintro e w' ⟨u, rfl, s', h7, h8⟩
  exact h _ _ _ h7 h8
def wpG (P : Program) (md : Region.Mode) (ops : Array Oper) (C : σ → World → Prop) (n : Nat) (L : σ → Array Bool → Act → Prop) : Nat → List Nat → σ → Array Bool → Act → Prop
 | 0, ds, s, listed, a => L s listed a
 | f + 1, ds, s, listed, a => Region.ready md ops listed ≠ [] ∧ ∀ i ∈ Region.ready md ops listed, i < n ∧
   ((ds.head? = some i ∧ dOp P ops C i s (fun s' a' => wpG P md ops C n L f ds.tail s' (listed.setIfInBounds i true) a') a) ∨
   (ds.head? ≠ some i ∧ gOp P ops C i (wpG P md ops C n L f ds s (listed.setIfInBounds i true)) a))
theorem wpAny_of_G {n g : Nat} {L : σ → Array Bool → Act → Prop} (hL : ∀ s listed a w, C s w → L s listed a → wpAny P md ops Q g listed a w) : ∀ (f : Nat) (ds : List Nat) (s : σ) (listed : Array Bool) (a : Act) (w : World), C s w → wpG P md ops C n L f ds s listed a → wpAny P md ops Q (f + g) listed a w
 | 0, ds, s, listed, a, w, hw, h => by rw [Nat.zero_add]; exact hL s listed a w hw h
 | f + 1, ds, s, listed, a, w, hw, h => by
  rw [show f + 1 + g = (f + g) + 1 by omega]
  refine ⟨fun h0 => absurd h0 h.1, fun i hi => ?_⟩
  rcases (h.2 i hi).2 with ⟨_, hd⟩ | ⟨_, hg⟩
  ·exact wpOp_of_dOp hw (fun s' a' w' hw' h' => wpAny_of_G hL f _ s' _ a' w' hw' h') hd
  ·exact wpOp_of_gOp s hw (fun a' w' hw' h' => wpAny_of_G hL f ds s _ a' w' hw' h') hg
theorem wpG_first {n k : Nat} {ok : Oper} {v : Value} {L : σ → Array Bool → Act → Prop} (hk : ops[k]? = some ok) (hsel : ∀ (j : Nat) (o : Oper) cs b, ops[j]? = some o → o.op ≠ .select cs b)
  (hs : Region.sinkB md ops n = true) (hc : Region.chainB md ops n = true) (hn : n < ops.size) (hkn : k < n) (hdone : ∀ s listed a, L s listed a → ∀ j ∈ Region.ready md ops listed, n ≤ j) :
  ∀ (f : Nat) (ds : List Nat) (s : σ) (listed : Array Bool) (a : Act), HeadInv md ops n listed → k ∉ ds →
   (∀ j oj, ops[j]? = some oj → j ≠ k → listed.getD j true = false → (∀ e ∈ oj.after, Region.binds md e = true → e.on ≠ k) → ok.apart ops oj = true) →
   k ∈ Region.ready md ops listed → YieldsG P ops C ok v a →
   wpG P md ops C n L f ds s (listed.setIfInBounds k true) (a.put ok.dst v) → wpG P md ops C n L (f + 1) ds s listed a := by
 have below : ∀ (listed : Array Bool), HeadInv md ops n listed → listed.getD k true = false → ∀ j ∈ Region.ready md ops listed, j < n := fun listed inv hun j hj => by
  rcases Nat.lt_or_ge j n with h | h
  ·exact h
  ·exact absurd hj (tail_waits hs hc hn inv _ k rfl hkn hun j h)
 intro f
 induction f with
 | zero =>
  intro ds s listed a inv hkd hfree hr hy H
  refine ⟨fun h => (by rw [h] at hr; cases hr), fun j hj => ?_⟩
  have hjn := below listed inv (mem_ready.1 hr).1 j hj
  refine ⟨hjn, ?_⟩
  by_cases hjk : j = k
  ·subst hjk
   exact Or.inr ⟨fun e => hkd (List.mem_of_mem_head? e), hy.gOp hk H⟩
  ·have := hdone _ _ _ H j (ready_mono hj hjk)
   omega
 | succ f ih =>
  intro ds s listed a inv hkd hfree hr hy H
  have hun := (mem_ready.1 hr).1
  refine ⟨fun h => (by rw [h] at hr; cases hr), fun j hj => ?_⟩
  have hjn := below listed inv hun j hj
  refine ⟨hjn, ?_⟩
  by_cases hjk : j = k
  ·subst hjk
   exact Or.inr ⟨fun e => hkd (List.mem_of_mem_head? e), hy.gOp hk H⟩
  ·obtain ⟨hjun, oj, hoj, hall⟩ := mem_ready.1 hj
   have hnot : ∀ e ∈ oj.after, Region.binds md e = true → e.on ≠ k := fun e he hb heq => by
    have h1 := hall e he hb
    rw [heq, getD_both hun] at h1
    cases h1
   have hap := hfree j oj hoj hjk hjun hnot
   have hfree' : ∀ i oi, ops[i]? = some oi → i ≠ k → (listed.setIfInBounds j true).getD i true = false →
     (∀ e ∈ oi.after, Region.binds md e = true → e.on ≠ k) → ok.apart ops oi = true := fun i oi hi hik hun' hno => by
    refine hfree i oi hi hik ?_ hno
    by_cases hji : j = i
    ·subst hji; exact hjun
    ·rw [getD_set_ne true hji] at hun'; exact hun'
   rcases (H.2 j (ready_mono hj hjk)).2 with ⟨hh, hd⟩ | ⟨hh, hg⟩
   ·refine Or.inl ⟨hh, ?_⟩
    obtain ⟨p1, p2, p3⟩ := Oper.apart_spec hap
    obtain ⟨o, h1, h2, h3⟩ := hd
    obtain rfl : oj = o := Option.some.inj (hoj.symm.trans h1)
    refine ⟨oj, hoj, by rw [wanted_put oj a ok.dst v p1] at h2; exact h2, fun w hw => ?_⟩
    refine ((h3 w hw).congr (execOp_put oj (fun cs b => hsel j oj cs b hoj) a ok.dst v p1)).mono (fun u w' ⟨s', h5, h6⟩ => ⟨s', h5, ih ds.tail s' (listed.setIfInBounds j true) (a.put oj.dst u) (inv.set hj hjn) (fun e => hkd (List.mem_of_mem_tail e)) hfree' (ready_mono hr (Ne.symm hjk)) ?_ ?_⟩)
    ·exact hy.of_same (execOp_put ok (fun cs b => hsel k ok cs b hk) a oj.dst u p3) (wanted_put ok a oj.dst u p3)
    ·rw [Array.setIfInBounds_comm _ _ hjk, ← Act.put_comm a v u p2]
     exact h6
   ·refine Or.inr ⟨hh, ?_⟩
    have h2 := gOp_put hoj hap (fun cs b => hsel k ok cs b hk) (fun cs b => hsel j oj cs b hoj) hy hg
    refine gOp_mono (fun a' h3 => ih ds s (listed.setIfInBounds j true) a' (inv.set hj hjn) hkd hfree' (ready_mono hr (Ne.symm hjk)) h3.1 ?_) h2
    rw [Array.setIfInBounds_comm _ _ hjk]
    exact h3.2
def wpT (P : Program) (ops : Array Oper) (C : σ → World → Prop) (L : σ → Act → Prop) : List Nat → List Nat → σ → Act → Prop
 | [], ds, s, a => L s a
 | k :: τ, ds, s, a => if ds.head? = some k then dOp P ops C k s (fun s' a' => wpT P ops C L τ ds.tail s' a') a else gOp P ops C k (wpT P ops C L τ ds s) a
def chkT (md : Region.Mode) (ops : Array Oper) (n : Nat) : List Nat → List Nat → Array Bool → Bool
 | [], ds, listed => Region.seqB md ops (ops.size - n) n listed
 | k :: τ, ds, listed =>
  decide (k < n) && (if ds.head? = some k then decide (Region.ready md ops listed = [k]) else !ds.contains k && (Region.ready md ops listed).contains k && Region.free md ops listed k && (ops[k]?).isSome) &&
   chkT md ops n τ (if ds.head? = some k then ds.tail else ds) (listed.setIfInBounds k true)
theorem wpG_of_T {n : Nat} {L : σ → Act → Prop} (hsel : Region.noSelect ops = true) (hs : Region.sinkB md ops n = true) (hc : Region.chainB md ops n = true) (hn : n < ops.size) : ∀ (τ ds : List Nat) (s : σ) (listed : Array Bool) (a : Act), HeadInv md ops n listed → chkT md ops n τ ds listed = true → wpT P ops C L τ ds s a →
  wpG P md ops C n (fun s' listed' a' => Region.seqB md ops (ops.size - n) n listed' = true ∧ L s' a') τ.length ds s listed a
 | [], ds, s, listed, a, _, hB, h => ⟨hB, h⟩
 | k :: τ, ds, s, listed, a, inv, hB, h => by
  unfold chkT at hB
  unfold wpT at h
  rw [Bool.and_eq_true, Bool.and_eq_true] at hB
  obtain ⟨⟨hB0, hB1⟩, hB2⟩ := hB
  have hkn : k < n := by simpa using hB0
  by_cases hd : ds.head? = some k
  ·rw [if_pos hd] at hB1 hB2 h
   have hr : Region.ready md ops listed = [k] := by simpa using hB1
   refine ⟨fun h0 => (by rw [hr] at h0; cases h0), fun i hi => ?_⟩
   have hi' := hi
   rw [hr] at hi
   obtain rfl : i = k := by simpa using hi
   exact ⟨hkn, Or.inl ⟨hd, dOp_mono (fun s' a' h' => wpG_of_T hsel hs hc hn τ ds.tail s' _ a' (inv.set hi' hkn) hB2 h') h⟩⟩
  ·rw [if_neg hd] at hB1 hB2 h
   simp only [Bool.and_eq_true, Bool.not_eq_true'] at hB1
   obtain ⟨⟨⟨b1, b2⟩, b3⟩, b4⟩ := hB1
   have hr : k ∈ Region.ready md ops listed := by simpa using b2
   obtain ⟨o, ho⟩ := Option.isSome_iff_exists.1 b4
   obtain ⟨v, hy, hK⟩ := yieldsG_of_gOp ho h
   exact wpG_first ho (Region.noSelect_spec hsel) hs hc hn hkn (fun s' listed' a' hL => seqB_ready hL.1) τ.length ds s listed a inv (by simpa using b1) (Region.free_spec ho b3) hr hy (wpG_of_T hsel hs hc hn τ ds s _ _ (inv.set hr hkn) hB2 hK)
theorem wp_region_turns {id : Nat} {a : Act} {w : World} {l : List Oper} (n : Nat) (ds : List Nat) (s : σ) (hmx : P.follows .mixedOrders = true)
  (hB : (chkT .any l.toArray n (List.range n) ds (Array.replicate l.toArray.size false) && decide (n < l.toArray.size) && Region.noSelect l.toArray && Region.sinkB .any l.toArray n && Region.chainB .any l.toArray n) = true)
  (hC : C s { w with drawn := w.drawn + 1 }) (h : wpT P l.toArray C (fun s' a' => ∀ w', C s' w' → wpList P l.toArray Q (l.drop n) a' w') (List.range n) ds s a) : (Code.region id l.toArray true).wp P Q a w := by
 simp only [Bool.and_eq_true, decide_eq_true_eq] at hB
 obtain ⟨⟨⟨⟨h1, hn⟩, h3⟩, hs⟩, hc⟩ := hB
 have inv0 : HeadInv .any l.toArray n (Array.replicate l.toArray.size false) :=
  ⟨by simp, fun j oj _ hl => (by rw [getD_replicate_false] at hl; cases hl), fun t _ ht => getD_in (by simpa using ht) (getD_replicate_false _ _)⟩
 have hdl : (l.drop n).length = l.toArray.size - n := by simp
 refine wp_region_any hmx ?_
 have := wpAny_of_G (md := .any) (Q := Q) (g := l.toArray.size - n) (fun s' listed a' w' hw' hL => by
  have := wpAny_of_seq (md := .any) (Q' := Q) (l.drop n) n listed a' w' (fun j => by simp [List.getElem?_drop]) (by rw [hdl]; exact hL.1) (hL.2 w' hw')
  rwa [hdl] at this) _ ds s _ a _ hC (wpG_of_T h3 hs hc hn (List.range n) ds s _ a inv0 h1 h)
 rw [List.length_range, show n + (l.toArray.size - n) = l.toArray.size by omega] at this
 exact this
theorem wpT_step {k : Nat} {τ ds : List Nat} {s : σ} {a : Act} {o : Oper} {L : σ → Act → Prop} (hd : (ds.head? == some k) = false) (hk : ops[k]? = some o)
  (h : ∀ K : Act → Prop, (∀ a, wpT P ops C L τ ds s a → K a) → if Region.wanted o (yielded ops a.tmps) then quietG P o a C K else K (a.put o.dst undef)) : wpT P ops C L (k :: τ) ds s a := by
 unfold wpT
 rw [if_neg (by simpa using hd)]
 unfold gOp
 simp only [hk]
 exact h _ (fun _ h => h)
theorem wpT_turn {k : Nat} {τ ds : List Nat} {s : σ} {a : Act} {o : Oper} {L : σ → Act → Prop} (hk : ops[k]? = some o) (hw : Region.wanted o (yielded ops a.tmps) = true)
  (h : ∀ w, C s w → ∃ u s' w', Turns P o a w u w' ∧ C s' w' ∧ wpT P ops C L τ ds s' (a.put o.dst u)) : wpT P ops C L (k :: τ) (k :: ds) s a := by
 unfold wpT
 rw [if_pos (show (k :: ds).head? = some k from rfl)]
 refine ⟨o, hk, hw, fun w hw => ?_⟩
 obtain ⟨u, s', w', h1, h2, h3⟩ := h w hw
 exact Or.inl ⟨u, w', h1, s', h2, h3⟩
theorem wpT_callS {k : Nat} {τ ds : List Nat} {s : σ} {a : Act} {o : Oper} {L : σ → Act → Prop} (hk : ops[k]? = some o) (hw : Region.wanted o (yielded ops a.tmps) = true) (f : FuncId) (args : Array Value)
  (h : ∀ w, C s w → (execOp a.eval o).run P w = .ok (.enter f args) w ∧ Calls P f args w fun e w' => ∃ u, e = .returned u ∧ ∃ s', C s' w' ∧ wpT P ops C L τ ds s' (a.put o.dst u)) : wpT P ops C L (k :: τ) (k :: ds) s a := by
 unfold wpT
 rw [if_pos (show (k :: ds).head? = some k from rfl)]
 refine ⟨o, hk, hw, fun w hw => ?_⟩
 obtain ⟨h1, h2⟩ := h w hw
 exact Or.inr ⟨f, args, w, h1, h2⟩
theorem wpT_end {ds : List Nat} {s : σ} {a : Act} {L : σ → Act → Prop} (h : L s a) : wpT P ops C L [] ds s a := h
end
abbrev OneOf (C : World → Prop) (s : {w : World // C w}) (w : World) : Prop := w = s.val
theorem wpT_turn1 {P : Program} {ops : Array Oper} {C : World → Prop} {Q : {w : World // C w} → Act → Prop} {k : Nat} {τ ds : List Nat} {s : {w : World // C w}} {a : Act} {o : Oper} (hk : ops[k]? = some o) (hw : Region.wanted o (yielded ops a.tmps) = true)
  (u : Value) (w' : World) (hC : C w') (ht : Turns P o a s.val u w') (h : wpT P ops (OneOf C) Q τ ds ⟨w', hC⟩ (a.put o.dst u)) : wpT P ops (OneOf C) Q (k :: τ) (k :: ds) s a :=
 wpT_turn hk hw fun w hw' => by
  obtain rfl : w = s.val := hw'
  exact ⟨u, ⟨w', hC⟩, w', ht, rfl, h⟩
theorem wpT_call1 {P : Program} {ops : Array Oper} {C : World → Prop} {Q : {w : World // C w} → Act → Prop} {k : Nat} {τ ds : List Nat} {s : {w : World // C w}} {a : Act} {o : Oper} (hk : ops[k]? = some o) (hw : Region.wanted o (yielded ops a.tmps) = true)
  (f : FuncId) (args : Array Value) (hrun : (execOp a.eval o).run P s.val = .ok (.enter f args) s.val) (h : Calls P f args s.val fun e w' => ∃ u, e = .returned u ∧ ∃ hC : C w', wpT P ops (OneOf C) Q τ ds ⟨w', hC⟩ (a.put o.dst u)) : wpT P ops (OneOf C) Q (k :: τ) (k :: ds) s a :=
 wpT_callS hk hw f args fun w hw' => by
  obtain rfl : w = s.val := hw'
  refine ⟨hrun, h.mono ?_⟩
  rintro e w' ⟨u, he, hC, hT⟩
  exact ⟨u, he, ⟨w', hC⟩, rfl, hT⟩
section
variable {P : Program} {ops : Array Oper} {σ : Type} {C : σ → World → Prop} {Q : Exit → Act → World → Prop}
theorem wp_region_order {id : Nat} {a : Act} {w : World} {l : List Oper} (n : Nat) (τ : List Nat) (ds : List Nat) (s : σ) (hmx : P.follows .mixedOrders = true)
  (hB : (chkT .any l.toArray n τ ds (Array.replicate l.toArray.size false) && decide (n < l.toArray.size) && Region.noSelect l.toArray && Region.sinkB .any l.toArray n && Region.chainB .any l.toArray n && decide (τ.length = n)) = true)
  (hC : C s { w with drawn := w.drawn + 1 }) (h : wpT P l.toArray C (fun s' a' => ∀ w', C s' w' → wpList P l.toArray Q (l.drop n) a' w') τ ds s a) : (Code.region id l.toArray true).wp P Q a w := by
 simp only [Bool.and_eq_true, decide_eq_true_eq] at hB
 obtain ⟨⟨⟨⟨⟨h1, hn⟩, h3⟩, hs⟩, hc⟩, hτ⟩ := hB
 have inv0 : HeadInv .any l.toArray n (Array.replicate l.toArray.size false) :=
  ⟨by simp, fun j oj _ hl => (by rw [getD_replicate_false] at hl; cases hl), fun t _ ht => getD_in (by simpa using ht) (getD_replicate_false _ _)⟩
 have hdl : (l.drop n).length = l.toArray.size - n := by simp
 refine wp_region_any hmx ?_
 have := wpAny_of_G (md := .any) (Q := Q) (g := l.toArray.size - n) (fun s' listed a' w' hw' hL => by
  have := wpAny_of_seq (md := .any) (Q' := Q) (l.drop n) n listed a' w' (fun j => by simp [List.getElem?_drop]) (by rw [hdl]; exact hL.1) (hL.2 w' hw')
  rwa [hdl] at this) _ ds s _ a _ hC (wpG_of_T h3 hs hc hn τ ds s _ a inv0 h1 h)
 rw [hτ, show n + (l.toArray.size - n) = l.toArray.size by omega] at this
 exact this
end
section
variable {P : Program} {ops : Array Oper} {md : Region.Mode} {σ : Type} {C : σ → World → Prop} {Q : Exit → Act → World → Prop}
def wpH (P : Program) (md : Region.Mode) (ops : Array Oper) (C : σ → World → Prop) (n : Nat) (L : σ → Array Bool → Act → Prop) : Nat → σ → Array Bool → Act → Prop
 | 0, s, listed, a => L s listed a
 | f + 1, s, listed, a => Region.ready md ops listed ≠ [] ∧ ∀ i ∈ Region.ready md ops listed, i < n ∧
   (dOp P ops C i s (fun s' a' => wpH P md ops C n L f s' (listed.setIfInBounds i true) a') a ∨
     gOp P ops C i (wpH P md ops C n L f s (listed.setIfInBounds i true)) a)
theorem wpAny_of_H {n g : Nat} {L : σ → Array Bool → Act → Prop} (hL : ∀ s listed a w, C s w → L s listed a → wpAny P md ops Q g listed a w) : ∀ (f : Nat) (s : σ) (listed : Array Bool) (a : Act) (w : World), C s w → wpH P md ops C n L f s listed a → wpAny P md ops Q (f + g) listed a w
 | 0, s, listed, a, w, hw, h => by rw [Nat.zero_add]; exact hL s listed a w hw h
 | f + 1, s, listed, a, w, hw, h => by
  rw [show f + 1 + g = (f + g) + 1 by omega]
  refine ⟨fun h0 => absurd h0 h.1, fun i hi => ?_⟩
  rcases (h.2 i hi).2 with hd | hg
  ·exact wpOp_of_dOp hw (fun s' a' w' hw' h' => wpAny_of_H hL f s' _ a' w' hw' h') hd
  ·exact wpOp_of_gOp s hw (fun a' w' hw' h' => wpAny_of_H hL f s _ a' w' hw' h') hg
theorem wpH_first {n k : Nat} {ok : Oper} {v : Value} {L : σ → Array Bool → Act → Prop} (hk : ops[k]? = some ok) (hsel : ∀ (j : Nat) (o : Oper) cs b, ops[j]? = some o → o.op ≠ .select cs b)
  (hs : Region.sinkB md ops n = true) (hc : Region.chainB md ops n = true) (hn : n < ops.size) (hkn : k < n) (hdone : ∀ s listed a, L s listed a → ∀ j ∈ Region.ready md ops listed, n ≤ j) :
  ∀ (f : Nat) (s : σ) (listed : Array Bool) (a : Act), HeadInv md ops n listed →
   (∀ j oj, ops[j]? = some oj → j ≠ k → listed.getD j true = false → (∀ e ∈ oj.after, Region.binds md e = true → e.on ≠ k) → ok.apart ops oj = true) →
   k ∈ Region.ready md ops listed → YieldsG P ops C ok v a →
   wpH P md ops C n L f s (listed.setIfInBounds k true) (a.put ok.dst v) → wpH P md ops C n L (f + 1) s listed a := by
 have below : ∀ (listed : Array Bool), HeadInv md ops n listed → listed.getD k true = false → ∀ j ∈ Region.ready md ops listed, j < n := fun listed inv hun j hj => by
  rcases Nat.lt_or_ge j n with h | h
  ·exact h
  ·exact absurd hj (tail_waits hs hc hn inv _ k rfl hkn hun j h)
 intro f
 induction f with
 | zero =>
  intro s listed a inv hfree hr hy H
  refine ⟨fun h => (by rw [h] at hr; cases hr), fun j hj => ?_⟩
  have hjn := below listed inv (mem_ready.1 hr).1 j hj
  refine ⟨hjn, ?_⟩
  by_cases hjk : j = k
  ·subst hjk
   exact Or.inr (hy.gOp hk H)
  ·have := hdone _ _ _ H j (ready_mono hj hjk)
   omega
 | succ f ih =>
  intro s listed a inv hfree hr hy H
  have hun := (mem_ready.1 hr).1
  refine ⟨fun h => (by rw [h] at hr; cases hr), fun j hj => ?_⟩
  have hjn := below listed inv hun j hj
  refine ⟨hjn, ?_⟩
  by_cases hjk : j = k
  ·subst hjk
   exact Or.inr (hy.gOp hk H)
  ·obtain ⟨hjun, oj, hoj, hall⟩ := mem_ready.1 hj
   have hnot : ∀ e ∈ oj.after, Region.binds md e = true → e.on ≠ k := fun e he hb heq => by
    have h1 := hall e he hb
    rw [heq, getD_both hun] at h1
    cases h1
   have hap := hfree j oj hoj hjk hjun hnot
   have hfree' : ∀ i oi, ops[i]? = some oi → i ≠ k → (listed.setIfInBounds j true).getD i true = false →
     (∀ e ∈ oi.after, Region.binds md e = true → e.on ≠ k) → ok.apart ops oi = true := fun i oi hi hik hun' hno => by
    refine hfree i oi hi hik ?_ hno
    by_cases hji : j = i
    ·subst hji; exact hjun
    ·rw [getD_set_ne true hji] at hun'; exact hun'
   rcases (H.2 j (ready_mono hj hjk)).2 with hd | hg
   ·refine Or.inl ?_
    obtain ⟨p1, p2, p3⟩ := Oper.apart_spec hap
    obtain ⟨o, h1, h2, h3⟩ := hd
    obtain rfl : oj = o := Option.some.inj (hoj.symm.trans h1)
    refine ⟨oj, hoj, by rw [wanted_put oj a ok.dst v p1] at h2; exact h2, fun w hw => ?_⟩
    refine ((h3 w hw).congr (execOp_put oj (fun cs b => hsel j oj cs b hoj) a ok.dst v p1)).mono (fun u w' ⟨s', h5, h6⟩ => ⟨s', h5, ih s' (listed.setIfInBounds j true) (a.put oj.dst u) (inv.set hj hjn) hfree' (ready_mono hr (Ne.symm hjk)) ?_ ?_⟩)
    ·exact hy.of_same (execOp_put ok (fun cs b => hsel k ok cs b hk) a oj.dst u p3) (wanted_put ok a oj.dst u p3)
    ·rw [Array.setIfInBounds_comm _ _ hjk, ← Act.put_comm a v u p2]
     exact h6
   ·refine Or.inr ?_
    have h2 := gOp_put hoj hap (fun cs b => hsel k ok cs b hk) (fun cs b => hsel j oj cs b hoj) hy hg
    refine gOp_mono (fun a' h3 => ih s (listed.setIfInBounds j true) a' (inv.set hj hjn) hfree' (ready_mono hr (Ne.symm hjk)) h3.1 ?_) h2
    rw [Array.setIfInBounds_comm _ _ hjk]
    exact h3.2
inductive Tr
 | fin
 | quiet (k : Nat) (t : Tr)
 | one (k : Nat) (t : Tr)
 | two (k : Nat) (t : Tr) (k2 : Nat) (t2 : Tr)
 | three (k : Nat) (t : Tr) (k2 : Nat) (t2 : Tr) (k3 : Nat) (t3 : Tr)
def wpB (P : Program) (ops : Array Oper) (C : σ → World → Prop) (L : σ → Act → Prop) : Tr → σ → Act → Prop
 | .fin, s, a => L s a
 | .quiet k t, s, a => gOp P ops C k (wpB P ops C L t s) a
 | .one k t, s, a => dOp P ops C k s (wpB P ops C L t) a
 | .two k t k2 t2, s, a => dOp P ops C k s (wpB P ops C L t) a ∧ dOp P ops C k2 s (wpB P ops C L t2) a
 | .three k t k2 t2 k3 t3, s, a => dOp P ops C k s (wpB P ops C L t) a ∧ dOp P ops C k2 s (wpB P ops C L t2) a ∧ dOp P ops C k3 s (wpB P ops C L t3) a
def chkB (md : Region.Mode) (ops : Array Oper) (n : Nat) : Nat → Tr → Array Bool → Bool
 | f, .fin, listed => Region.seqB md ops (ops.size - n) n listed && f == 0
 | 0, _, _ => false
 | f + 1, .quiet k t, listed => decide (k < n) && (Region.ready md ops listed).contains k && Region.free md ops listed k && (ops[k]?).isSome && chkB md ops n f t (listed.setIfInBounds k true)
 | f + 1, .one k t, listed => decide (k < n) && decide (Region.ready md ops listed = [k]) && chkB md ops n f t (listed.setIfInBounds k true)
 | f + 1, .two k t k2 t2, listed => decide (k < n) && decide (k2 < n) && decide (Region.ready md ops listed = [k, k2]) && chkB md ops n f t (listed.setIfInBounds k true) && chkB md ops n f t2 (listed.setIfInBounds k2 true)
 | f + 1, .three k t k2 t2 k3 t3, listed => decide (k < n) && decide (k2 < n) && decide (k3 < n) && decide (Region.ready md ops listed = [k, k2, k3]) && chkB md ops n f t (listed.setIfInBounds k true) && chkB md ops n f t2 (listed.setIfInBounds k2 true) && chkB md ops n f t3 (listed.setIfInBounds k3 true)
theorem wpH_of_B {n : Nat} {L : σ → Act → Prop} (hsel : Region.noSelect ops = true) (hs : Region.sinkB md ops n = true) (hc : Region.chainB md ops n = true) (hn : n < ops.size) : ∀ (f : Nat) (t : Tr) (s : σ) (listed : Array Bool) (a : Act), HeadInv md ops n listed → chkB md ops n f t listed = true → wpB P ops C L t s a →
  wpH P md ops C n (fun s' listed' a' => Region.seqB md ops (ops.size - n) n listed' = true ∧ L s' a') f s listed a
 | f, .fin, s, listed, a, _, hB, h => by
  unfold chkB at hB
  simp only [Bool.and_eq_true, beq_iff_eq] at hB
  obtain ⟨hB, rfl⟩ := hB
  exact ⟨hB, h⟩
 | 0, .quiet _ _, _, _, _, _, hB, _ => by simp [chkB] at hB
 | 0, .one _ _, _, _, _, _, hB, _ => by simp [chkB] at hB
 | 0, .two _ _ _ _, _, _, _, _, hB, _ => by simp [chkB] at hB
 | 0, .three _ _ _ _ _ _, _, _, _, _, hB, _ => by simp [chkB] at hB
 | f + 1, .quiet k t, s, listed, a, inv, hB, h => by
  unfold chkB at hB
  simp only [Bool.and_eq_true, decide_eq_true_eq] at hB
  obtain ⟨⟨⟨⟨hkn, b2⟩, b3⟩, b4⟩, hB2⟩ := hB
  have hr : k ∈ Region.ready md ops listed := by simpa using b2
  obtain ⟨o, ho⟩ := Option.isSome_iff_exists.1 b4
  obtain ⟨v, hy, hK⟩ := yieldsG_of_gOp ho h
  exact wpH_first ho (Region.noSelect_spec hsel) hs hc hn hkn (fun s' listed' a' hL => seqB_ready hL.1) f s listed a inv (Region.free_spec ho b3) hr hy (wpH_of_B hsel hs hc hn f t s _ _ (inv.set hr hkn) hB2 hK)
 | f + 1, .one k t, s, listed, a, inv, hB, h => by
  unfold chkB at hB
  simp only [Bool.and_eq_true, decide_eq_true_eq] at hB
  obtain ⟨⟨h1, hr⟩, c1⟩ := hB
  refine ⟨fun h0 => (by rw [hr] at h0; cases h0), fun i hi => ?_⟩
  have hi' := hi
  rw [hr] at hi
  obtain rfl : i = k := by simpa using hi
  exact ⟨h1, Or.inl (dOp_mono (fun s' a' h' => wpH_of_B hsel hs hc hn f t s' _ a' (inv.set hi' h1) c1 h') h)⟩
 | f + 1, .two k t k2 t2, s, listed, a, inv, hB, h => by
  unfold chkB at hB
  simp only [Bool.and_eq_true, decide_eq_true_eq] at hB
  obtain ⟨⟨⟨⟨h1, h2⟩, hr⟩, c1⟩, c2⟩ := hB
  obtain ⟨g1, g2⟩ := h
  refine ⟨fun h0 => (by rw [hr] at h0; cases h0), fun i hi => ?_⟩
  have hi' := hi
  rw [hr] at hi
  rcases List.mem_cons.1 hi with rfl | hi
  ·exact ⟨h1, Or.inl (dOp_mono (fun s' a' h' => wpH_of_B hsel hs hc hn f t s' _ a' (inv.set hi' h1) c1 h') g1)⟩
  ·obtain rfl : i = k2 := by simpa using hi
   exact ⟨h2, Or.inl (dOp_mono (fun s' a' h' => wpH_of_B hsel hs hc hn f t2 s' _ a' (inv.set hi' h2) c2 h') g2)⟩
 | f + 1, .three k t k2 t2 k3 t3, s, listed, a, inv, hB, h => by
  unfold chkB at hB
  simp only [Bool.and_eq_true, decide_eq_true_eq] at hB
  obtain ⟨⟨⟨⟨⟨⟨h1, h2⟩, h3⟩, hr⟩, c1⟩, c2⟩, c3⟩ := hB
  obtain ⟨g1, g2, g3⟩ := h
  refine ⟨fun h0 => (by rw [hr] at h0; cases h0), fun i hi => ?_⟩
  have hi' := hi
  rw [hr] at hi
  rcases List.mem_cons.1 hi with rfl | hi
  ·exact ⟨h1, Or.inl (dOp_mono (fun s' a' h' => wpH_of_B hsel hs hc hn f t s' _ a' (inv.set hi' h1) c1 h') g1)⟩
  ·rcases List.mem_cons.1 hi with rfl | hi
   ·exact ⟨h2, Or.inl (dOp_mono (fun s' a' h' => wpH_of_B hsel hs hc hn f t2 s' _ a' (inv.set hi' h2) c2 h') g2)⟩
   ·obtain rfl : i = k3 := by simpa using hi
    exact ⟨h3, Or.inl (dOp_mono (fun s' a' h' => wpH_of_B hsel hs hc hn f t3 s' _ a' (inv.set hi' h3) c3 h') g3)⟩
theorem wp_region_plan {id : Nat} {a : Act} {w : World} {l : List Oper} (n : Nat) (t : Tr) (s : σ) (hmx : P.follows .mixedOrders = true)
  (hB : (chkB .any l.toArray n n t (Array.replicate l.toArray.size false) && decide (n < l.toArray.size) && Region.noSelect l.toArray && Region.sinkB .any l.toArray n && Region.chainB .any l.toArray n) = true)
  (hC : C s { w with drawn := w.drawn + 1 }) (h : wpB P l.toArray C (fun s' a' => ∀ w', C s' w' → wpList P l.toArray Q (l.drop n) a' w') t s a) : (Code.region id l.toArray true).wp P Q a w := by
 simp only [Bool.and_eq_true, decide_eq_true_eq] at hB
 obtain ⟨⟨⟨⟨h1, hn⟩, h3⟩, hs⟩, hc⟩ := hB
 have inv0 : HeadInv .any l.toArray n (Array.replicate l.toArray.size false) :=
  ⟨by simp, fun j oj _ hl => (by rw [getD_replicate_false] at hl; cases hl), fun t _ ht => getD_in (by simpa using ht) (getD_replicate_false _ _)⟩
 have hdl : (l.drop n).length = l.toArray.size - n := by simp
 refine wp_region_any hmx ?_
 have := wpAny_of_H (md := .any) (Q := Q) (g := l.toArray.size - n) (fun s' listed a' w' hw' hL => by
  have := wpAny_of_seq (md := .any) (Q' := Q) (l.drop n) n listed a' w' (fun j => by simp [List.getElem?_drop]) (by rw [hdl]; exact hL.1) (hL.2 w' hw')
  rwa [hdl] at this) n s _ a _ hC (wpH_of_B h3 hs hc hn n t s _ a inv0 h1 h)
 rw [show n + (l.toArray.size - n) = l.toArray.size by omega] at this
 exact this
theorem wpB_step {k : Nat} {t : Tr} {s : σ} {a : Act} {o : Oper} {L : σ → Act → Prop} (hk : ops[k]? = some o)
  (h : ∀ K : Act → Prop, (∀ a, wpB P ops C L t s a → K a) → if Region.wanted o (yielded ops a.tmps) then quietG P o a C K else K (a.put o.dst undef)) : wpB P ops C L (.quiet k t) s a := by
 unfold wpB gOp
 simp only [hk]
 exact h _ (fun _ h => h)
end
section
variable {P : Program} {ops : Array Oper} {σ : Type} {C : σ → World → Prop} {L : σ → Act → Prop} {s : σ} {a : Act} {k k2 k3 : Nat} {t t2 t3 : Tr}
theorem wpB_one (h : dOp P ops C k s (wpB P ops C L t) a) : wpB P ops C L (.one k t) s a := h
theorem wpB_two (h : dOp P ops C k s (wpB P ops C L t) a) (h2 : dOp P ops C k2 s (wpB P ops C L t2) a) : wpB P ops C L (.two k t k2 t2) s a := ⟨h, h2⟩
theorem wpB_three (h : dOp P ops C k s (wpB P ops C L t) a) (h2 : dOp P ops C k2 s (wpB P ops C L t2) a) (h3 : dOp P ops C k3 s (wpB P ops C L t3) a) : wpB P ops C L (.three k t k2 t2 k3 t3) s a := ⟨h, h2, h3⟩
theorem wpB_fin (h : L s a) : wpB P ops C L .fin s a := h
end
section
variable {P : Program} {ops : Array Oper} {C : World → Prop}
theorem dOp_turn1 {K : {w : World // C w} → Act → Prop} {k : Nat} {s : {w : World // C w}} {a : Act} {o : Oper} (hk : ops[k]? = some o) (hw : Region.wanted o (yielded ops a.tmps) = true)
  (u : Value) (w' : World) (hC : C w') (ht : Turns P o a s.val u w') (h : K ⟨w', hC⟩ (a.put o.dst u)) : dOp P ops (OneOf C) k s K a :=
 ⟨o, hk, hw, fun w hw' => by
  obtain rfl : w = s.val := hw'
  exact Or.inl ⟨u, w', ht, ⟨w', hC⟩, rfl, h⟩⟩
theorem dOp_call1 {K : {w : World // C w} → Act → Prop} {k : Nat} {s : {w : World // C w}} {a : Act} {o : Oper} (hk : ops[k]? = some o) (hw : Region.wanted o (yielded ops a.tmps) = true)
  (f : FuncId) (args : Array Value) (hrun : (execOp a.eval o).run P s.val = .ok (.enter f args) s.val) (h : Calls P f args s.val fun e w' => ∃ u, e = .returned u ∧ ∃ hC : C w', K ⟨w', hC⟩ (a.put o.dst u)) : dOp P ops (OneOf C) k s K a :=
 ⟨o, hk, hw, fun w hw' => by
  obtain rfl : w = s.val := hw'
  refine Or.inr ⟨f, args, s.val, hrun, h.mono ?_⟩
  rintro e w' ⟨u, he, hC, hT⟩
  exact ⟨u, he, ⟨w', hC⟩, rfl, hT⟩⟩
end
end Go.Proofs.YtcphhbofjkenaaaGreatDoor
