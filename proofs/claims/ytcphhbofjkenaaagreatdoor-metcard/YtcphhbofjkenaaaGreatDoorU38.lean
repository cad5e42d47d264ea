import Derived.Test.YtcphhbofjkenaaaGreatDoorU33
import Derived.Test.YtcphhbofjkenaaaGreatDoorU36
namespace Go.Proofs.YtcphhbofjkenaaaGreatDoor
open Go Go.ChangeShapes Go.WideShapes Go.ChangeAt Go.RowKit
set_option linter.unusedVariables false
theorem structJ {H : Type} {enc : TypeId × Value → H} {P : Program} {w : World} {base : Nat} {sp : Nat → Bool} {held : Bool} {t : TypeId} {f0 f1 f2 f3 : Field} {fuel : Nat} {cs : List Value} {x : DataW H × List MemPlace} (ht : P.underlying t = some (.struct #[f0, f1, f2, f3])) (h : DataW.trod enc P w base sp held fuel t cs = some x) :
  ∃ y0 y1 y2 y3 n, cs.length = P.cellsOf t ∧
   DataW.trod enc P w base sp held n f0.type ((cs.drop f0.offset).take (P.cellsOf f0.type)) = some y0 ∧ DataW.trod enc P w base sp held n f1.type ((cs.drop f1.offset).take (P.cellsOf f1.type)) = some y1 ∧
   DataW.trod enc P w base sp held n f2.type ((cs.drop f2.offset).take (P.cellsOf f2.type)) = some y2 ∧ DataW.trod enc P w base sp held n f3.type ((cs.drop f3.offset).take (P.cellsOf f3.type)) = some y3 := by
 obtain ⟨xs, n, _, rfl, hl, hlen, hf⟩ := DataW.trod_struct ht h
 match xs, hlen with
 | [y0, y1, y2, y3], _ =>
  exact ⟨y0, y1, y2, y3, n, hl, by simpa using hf 0 f0 rfl, by simpa using hf 1 f1 rfl, by simpa using hf 2 f2 rfl, by simpa using hf 3 f3 rfl⟩
theorem c_job : Tryz.prog.cellsOf 124 = 4 := by kernel_rfl
theorem job_of_trod {H : Type} {enc : TypeId × Value → H} {w : World} {fuel : Nat} {cs : List Value} {x : DataW H × List MemPlace} (h : DataW.trod enc Tryz.prog w 0 (fun _ => true) true fuel 124 cs = some x) : ∃ j : JR, cs = j.cells ∧ j.Ok := by
 obtain ⟨y0, y1, y2, y3, n, hl, t0, t1, t2, t3⟩ := structJ Tryz.underlying124 h
 simp only [c_int] at t0 t1 t2 t3
 rw [c_job] at hl
 match cs, hl with
 | [v0, v1, v2, v3], _ =>
  obtain ⟨a0, e0, _, w0⟩ := DataW.trod_int Tryz.underlying3 t0
  obtain ⟨a1, e1, _, w1⟩ := DataW.trod_int Tryz.underlying3 t1
  obtain ⟨a2, e2, _, w2⟩ := DataW.trod_int Tryz.underlying3 t2
  obtain ⟨a3, e3, _, w3⟩ := DataW.trod_int Tryz.underlying3 t3
  simp at e0 e1 e2 e3
  subst e0; subst e1; subst e2; subst e3
  simp only [Lit.wf, Bool.and_eq_true, decide_eq_true_eq] at w0 w1 w2 w3
  exact ⟨⟨a0, a1, a2, a3⟩, rfl, ⟨w0.1, w0.2⟩, ⟨w1.1, w1.2⟩, ⟨w2.1, w2.2⟩, ⟨w3.1, w3.2⟩⟩
theorem jobs_of_trod {H : Type} {enc : TypeId × Value → H} {w : World} {a : Option Addr} {len cap : Nat} {d : DataW H} {p : List MemPlace} (h : DataW.Trod enc Tryz.prog w 0 (fun _ => true) true 54 (.slice a len cap) d p) {ts : List TypeId} {ds : List (DataW H)} (hb : (DataW.weightsEach Tryz.prog ts ds).all (· ≤ reachBytes) = true) (j : Nat) (ht : ts[j]? = some 54) (hj : ds[j]? = some d) :
  ∃ l : List JR, JsAt w.heap.size w (.slice a len cap) l ∧ (∀ j ∈ l, j.Ok) ∧ l.length ≤ 17592186043904 := by
 obtain ⟨fuel, h⟩ := h
 rcases Deep.open_slice Tryz.underlying54 h with ⟨h1, _⟩ | ⟨a', len', cap', m, n, D, Pl, h1, _, hlc, _, hm, hx, hel⟩
 ·obtain ⟨rfl, rfl, rfl⟩ : a = none ∧ len = 0 ∧ cap = 0 := by simpa [Value.cells] using h1
  exact ⟨[], Or.inl ⟨rfl, _, _, rfl⟩, (fun x hx => by simp at hx), by simp⟩
 ·obtain ⟨rfl, rfl, rfl⟩ : a = some a' ∧ len = len' ∧ cap = cap' := by simpa [Value.cells] using h1
  simp only [if_true] at hm
  have hd : d = .slice ((List.range len).map D) ((List.range (m - len)).map fun j => D (len + j)) := congrArg Prod.fst hx
  have hlen : len ≤ 17592186043904 := by
   have := sized_slice hb ht (by rw [hj, hd]) Tryz.underlying54
   rw [show Tryz.prog.bytesOf 124 = 32 by kernel_rfl, show reachBytes = 140737488351232 from rfl] at this
   simp only [List.length_map, List.length_range] at this
   omega
  have each : ∀ i, i < len → ∃ j : JR, j.Ok ∧ w.cells? 0 (a'.add (i * 4)) 4 = some j.cells := fun i hi => by
   obtain ⟨cs', h2, h3⟩ := hel i (by omega)
   rw [c_job] at h2
   obtain ⟨j, e, hj⟩ := job_of_trod h3
   exact ⟨j, hj, by rw [h2, e]⟩
  have : ∃ l : List JR, l.length = len ∧ ∀ i (hi : i < l.length), l[i].Ok ∧ w.cells? 0 (a'.add (i * 4)) 4 = some l[i].cells := by
   clear hm hx hel hlc hd hb hlen h h1 hj ht
   induction len with
   | zero => exact ⟨[], rfl, fun i hi => by simp at hi⟩
   | succ q ih =>
    obtain ⟨l, ho, hall⟩ := ih (fun i hi => each i (by omega))
    obtain ⟨o, h1⟩ := each q (by omega)
    refine ⟨l ++ [o], by simp [ho], fun i hi => ?_⟩
    by_cases hiq : i < l.length
    ·rw [List.getElem_append_left hiq]; exact hall i hiq
    ·have : i = l.length := by simp at hi; omega
     subst this
     rw [List.getElem_append_right (Nat.le_refl _)]
     simp only [Nat.sub_self, List.getElem_cons_zero]
     rw [ho]; exact h1
  obtain ⟨l, ho, hall⟩ := this
  refine ⟨l, ?_, fun x hx => ?_, by omega⟩
  ·by_cases h0 : len = 0
   ·exact Or.inl ⟨List.eq_nil_of_length_eq_zero (by omega), _, _, by rw [h0]⟩
   ·right
    have hc0 : ∀ i (hi : i < l.length) (r : Nat) (hr : r < 4), w.cell? (a'.add (i * 4 + r)) = l[i].cells[r]? := fun i hi r hr => by
     have h6 := (World.cells?_some (hall i hi).2).2.2 r hr
     rw [Deep.add_add] at h6
     exact h6
    have hf0 := hc0 0 (by omega) 0 (by omega)
    obtain ⟨v0, hv0⟩ : ∃ v, (l[0]'(by omega)).cells[0]? = some v := ⟨_, rfl⟩
    rw [hv0] at hf0
    have hs : a'.spot = none := spot_none (p := a'.add (0 * 4 + 0)) hf0
    obtain ⟨pb, po, ps⟩ := a'
    simp only at hs
    subst hs
    refine ⟨pb, po, cap, by rw [ho], by omega, World.block_lt_of_cell? w _ hf0, fun j u hu => ?_⟩
    have hj : j < l.length * 4 := by
     have := (List.getElem?_eq_some_iff.1 hu).1
     rw [flat_length JR.cells 4 (fun _ => rfl)] at this; exact this
    have h5 := flat_get JR.cells 4 (fun _ => rfl) l (j / 4) (j % 4) (by omega) (by omega)
    have hjj : j / 4 * 4 + j % 4 = j := by omega
    rw [hjj, hu] at h5
    have h6 := hc0 (j / 4) (by omega) (j % 4) (by omega)
    rw [hjj, ← h5, Addr.add_lit] at h6
    exact h6
  ·obtain ⟨j, hj, rfl⟩ := List.getElem_of_mem hx
   exact (hall j hj).1
end Go.Proofs.YtcphhbofjkenaaaGreatDoor
