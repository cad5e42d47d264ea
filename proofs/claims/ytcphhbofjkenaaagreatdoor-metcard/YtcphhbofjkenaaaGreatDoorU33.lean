import Derived.SizedLaws
import Derived.Deep.Slices
import Derived.Deep.Strs
import Derived.Lib.LaidTab
import Derived.Lib.LaidU8
import Derived.Lib.SmallJoins
import Derived.Test.YtcphhbofjkenaaaGreatDoorU32
namespace Go.Proofs.YtcphhbofjkenaaaGreatDoor
open Go Go.RowKit Go.ChangeShapes Go.WideShapes
set_option linter.unusedVariables false
set_option linter.unusedSimpArgs false
section
variable {H : Type} {enc : TypeId × Value → H} {P : Program} {w : World} {base : Nat} {sp : Nat → Bool} {held : Bool}
theorem str_inj {s t : ByteArray} (h : s.data.toList = t.data.toList) : s = t := by
 obtain ⟨⟨s⟩⟩ := s
 obtain ⟨⟨t⟩⟩ := t
 simp at h
 rw [h]
def tripD {H : Type} (x : ByteArray × Int × Int) : DataW H := .agg [.lit (.string x.1.data.toList), .lit (.int .i64 x.2.1), .lit (.int .i64 x.2.2)]
theorem trip_cells {e st it : TypeId} {f0 f1 f2 : Field} {fuel : Nat} {cs : List Value} {p : List MemPlace} {x : ByteArray × Int × Int} (he : P.underlying e = some (.struct #[f0, f1, f2])) (hs : P.underlying st = some .string) (hi : P.underlying it = some (.int .i64))
  (h0 : f0.type = st ∧ f0.offset = 0) (h1 : f1.type = it ∧ f1.offset = 1) (h2 : f2.type = it ∧ f2.offset = 2) (c0 : P.cellsOf st = 1) (c1 : P.cellsOf it = 1) (c2 : P.cellsOf e = 3)
  (h : DataW.trod enc P w base sp held fuel e cs = some (tripD x, p)) : cs = [.string x.1, .int .i64 x.2.1, .int .i64 x.2.2] := by
 obtain ⟨y0, y1, y2, n, hx, hl, t0, t1, t2⟩ := Deep.trod_struct3 he h
 rw [h0.1, h0.2, c0] at t0
 rw [h1.1, h1.2, c1] at t1
 rw [h2.1, h2.2, c1] at t2
 rw [c2] at hl
 match cs, hl with
 | [v0, v1, v2], _ =>
  obtain ⟨s, e0, e1, _⟩ := DataW.trod_string hs t0
  obtain ⟨a, e2, e3, _⟩ := DataW.trod_int hi t1
  obtain ⟨b, e4, e5, _⟩ := DataW.trod_int hi t2
  simp at e0 e2 e4
  subst e0; subst e2; subst e4
  have hd := congrArg Prod.fst hx
  simp [tripD, e1, e3, e5] at hd
  obtain ⟨d1, d2, d3⟩ := hd
  have d1' : x.1.data.toList = s.data.toList := by simpa using d1
  rw [str_inj d1', d2, d3]
theorem trips_cells {t e st it : TypeId} {n : Nat} {f0 f1 f2 : Field} {fuel : Nat} {cs : List Value} {p : List MemPlace} (rows : List (ByteArray × Int × Int)) (ht : P.underlying t = some (.array n e)) (he : P.underlying e = some (.struct #[f0, f1, f2])) (hs : P.underlying st = some .string) (hi : P.underlying it = some (.int .i64))
  (h0 : f0.type = st ∧ f0.offset = 0) (h1 : f1.type = it ∧ f1.offset = 1) (h2 : f2.type = it ∧ f2.offset = 2) (c0 : P.cellsOf st = 1) (c1 : P.cellsOf it = 1) (c2 : P.cellsOf e = 3) (c3 : P.cellsOf t = n * 3)
  (h : DataW.trod enc P w base sp held fuel t cs = some (.agg (rows.map tripD), p)) : cs = rows.flatMap fun x => [.string x.1, .int .i64 x.2.1, .int .i64 x.2.2] := by
 cases fuel with
 | zero => simp [DataW.trod] at h
 | succ fuel =>
  simp only [DataW.trod, ht, c2, c3] at h
  split at h
  ·rename_i hl
   obtain ⟨xs, hm, hx⟩ := Option.map_eq_some_iff.1 h
   have hxs : xs.map (·.1) = rows.map (tripD (H := H)) := by
    have := congrArg Prod.fst hx
    simpa using this
   have hxl : xs.length = n := by simpa using Lib.mapM_length hm
   have hrl : rows.length = n := by
    have := congrArg List.length hxs
    simp at this
    omega
   have key : ∀ i (hi' : i < rows.length), (cs.drop (i * 3)).take 3 = [.string rows[i].1, .int .i64 rows[i].2.1, .int .i64 rows[i].2.2] := fun i hi' => by
    obtain ⟨b, hb, hf⟩ := Lib.mapM_at hm i i (by simp [show i < n by omega])
    have hb1 : b.1 = tripD rows[i] := by
     have h3 : (xs.map (·.1))[i]? = some b.1 := by simp [hb]
     rw [hxs, List.getElem?_map, List.getElem?_eq_getElem hi'] at h3
     simpa using h3.symm
    obtain ⟨b1, b2⟩ := b
    simp only at hb1
    subst hb1
    exact trip_cells he hs hi h0 h1 h2 c0 c1 c2 hf
   have hfl : (rows.flatMap fun x => [Value.string x.1, .int .i64 x.2.1, .int .i64 x.2.2]).length = rows.length * 3 := flat_length _ 3 (fun _ => rfl) rows
   apply List.ext_getElem?
   intro j
   by_cases hj : j < rows.length * 3
   ·have hq : j / 3 < rows.length := by omega
    have hr : j % 3 < 3 := Nat.mod_lt _ (by omega)
    have hjj : j / 3 * 3 + j % 3 = j := by omega
    have h5 := flat_get (fun x : ByteArray × Int × Int => [Value.string x.1, .int .i64 x.2.1, .int .i64 x.2.2]) 3 (fun _ => rfl) rows (j / 3) (j % 3) hq hr
    rw [hjj] at h5
    rw [h5, ← key (j / 3) hq, List.getElem?_take, if_pos hr, List.getElem?_drop, hjj]
   ·rw [List.getElem?_eq_none (by omega), List.getElem?_eq_none (by omega)]
  ·cases h
theorem iface_cells {t : TypeId} {ms : Array (String × TypeId)} {fuel : Nat} {cs : List Value} {x : DataW H × List MemPlace} (ht : P.underlying t = some (.interface ms)) (h : DataW.trod enc P w base sp held fuel t cs = some x) : cs = [.nilIface] ∨ ∃ u v, cs = [.iface u v] := by
 cases fuel with
 | zero => simp [DataW.trod] at h
 | succ n =>
  unfold DataW.trod at h
  rw [ht] at h
  split at h <;> simp_all
end
theorem c_int : Tryz.prog.cellsOf 3 = 1 := by kernel_rfl
theorem c_str : Tryz.prog.cellsOf 9 = 1 := by kernel_rfl
theorem c_row : Tryz.prog.cellsOf 262 = 3 := by kernel_rfl
theorem c_rows : Tryz.prog.cellsOf 263 = 35 * 3 := by kernel_rfl
theorem g_rows : Tryz.prog.globalNamed "forthwith/code.rows" = some 0 := by kernel_rfl
theorem g_rowsT : (Tryz.prog.globals[(0 : Nat)]?).map (·.type) = some 263 := by kernel_rfl
theorem g_syn : Tryz.prog.globalNamed "strconv.ErrSyntax" = some 1 := by kernel_rfl
theorem g_synT : (Tryz.prog.globals[(1 : Nat)]?).map (·.type) = some 274 := by kernel_rfl
theorem g_ran : Tryz.prog.globalNamed "strconv.ErrRange" = some 2 := by kernel_rfl
theorem g_ranT : (Tryz.prog.globals[(2 : Nat)]?).map (·.type) = some 274 := by kernel_rfl
theorem var_heap {P : Program} {W : World} {n : String} {g : Nat} {cs : Array Value} (hg : P.globalNamed n = some g) (h : W.var? P n = some cs) : ∃ t f, W.heap[g]? = some (.cells cs t f) := by
 unfold World.var? at h
 rw [hg] at h
 simp only [Option.bind_some] at h
 split at h
 ·rename_i cs' t f he
  exact ⟨t, f, by rw [he]; simpa using h⟩
 ·cases h
theorem err_of_reads {W : World} {n : String} {g : Nat} {d : DataW Unit} (hg : Tryz.prog.globalNamed n = some g) (ht : (Tryz.prog.globals[g]?).map (·.type) = some 274) (h : Lib.VarReads Tryz.prog W n d) : ErrAt W g := by
 obtain ⟨g', t', cs, fuel, p, h1, h2, h3, h4⟩ := h
 obtain rfl := Option.some.inj (hg.symm.trans h1)
 obtain rfl := Option.some.inj (ht.symm.trans h2)
 obtain ⟨t, f, hh⟩ := var_heap hg h3
 rcases iface_cells Tryz.underlying274 h4 with e | ⟨u, v, e⟩
 ·have hc : cs[0]? = some .nilIface := by rw [← Array.getElem?_toList, e]; rfl
  exact ⟨.nilIface, by simp [World.cell?, hh, hc], Or.inl rfl⟩
 ·have hc : cs[0]? = some (.iface u v) := by rw [← Array.getElem?_toList, e]; rfl
  exact ⟨.iface u v, by simp [World.cell?, hh, hc], Or.inr ⟨u, v, rfl⟩⟩
theorem tab_of_laid {W : World} {l : List (String × DataW Unit)} (h : laidMet Tryz.prog l W) (h1 : ("forthwith/code.rows", Rows.laid_forthwith_code_rows) ∈ l) (h2 : ("strconv.ErrSyntax", Rows.laid_strconv_ErrSyntax) ∈ l) (h3 : ("strconv.ErrRange", Rows.laid_strconv_ErrRange) ∈ l) : Tab W := by
 refine ⟨?_, err_of_reads g_syn g_synT (Lib.laidMet.reads h h2), err_of_reads g_ran g_ranT (Lib.laidMet.reads h h3)⟩
 obtain ⟨g', t', cs, fuel, p, e1, e2, e3, e4⟩ := Lib.laidMet.reads h h1
 obtain rfl := Option.some.inj (g_rows.symm.trans e1)
 obtain rfl := Option.some.inj (g_rowsT.symm.trans e2)
 obtain ⟨t, f, hh⟩ := var_heap g_rows e3
 have hc := trips_cells opTab Tryz.underlying263 Tryz.underlying262 Tryz.underlying9 Tryz.underlying3 ⟨rfl, rfl⟩ ⟨rfl, rfl⟩ ⟨rfl, rfl⟩ c_str c_int c_row c_rows (by rw [e4]; rfl)
 refine ⟨t, f, ?_⟩
 rw [hh]
 have : cs = opCells.toArray := by
  rw [← Array.toArray_toList (xs := cs), hc]; rfl
 rw [this]
theorem spot_none {w : World} {p : Addr} {u : Value} (h : w.cell? p = some u) : p.spot = none := by
 unfold World.cell? at h
 split at h
 ·split at h
  ·cases h
  ·rename_i hs; simpa using hs
 ·cases h
theorem ints_of_trod {H : Type} {enc : TypeId × Value → H} {w : World} {a : Option Addr} {len cap : Nat} {d : DataW H} {p : List MemPlace} (h : DataW.Trod enc Tryz.prog w 0 (fun _ => true) true 24 (.slice a len cap) d p) {ts : List TypeId} {ds : List (DataW H)} (hb : (DataW.weightsEach Tryz.prog ts ds).all (· ≤ reachBytes) = true) (j : Nat) (ht : ts[j]? = some 24) (hj : ds[j]? = some d) :
  ∃ l : List Int, InsAt w.heap.size w (.slice a len cap) l ∧ (∀ x ∈ l, I64 x) ∧ l.length ≤ 17592186043904 := by
 obtain ⟨fuel, h⟩ := h
 rcases Deep.open_slice Tryz.underlying24 h with ⟨h1, _⟩ | ⟨a', len', cap', m, n, D, Pl, h1, _, hlc, _, hm, hx, hel⟩
 ·obtain ⟨rfl, rfl, rfl⟩ : a = none ∧ len = 0 ∧ cap = 0 := by simpa [Value.cells] using h1
  exact ⟨[], Or.inl ⟨rfl, _, _, rfl⟩, (fun x hx => by simp at hx), by simp⟩
 ·obtain ⟨rfl, rfl, rfl⟩ : a = some a' ∧ len = len' ∧ cap = cap' := by simpa [Value.cells] using h1
  simp only [if_true] at hm
  have hd : d = .slice ((List.range len).map D) ((List.range (m - len)).map fun j => D (len + j)) := congrArg Prod.fst hx
  have hlen : len ≤ 17592186043904 := by
   have := sized_slice hb ht (by rw [hj, hd]) Tryz.underlying24
   rw [show Tryz.prog.bytesOf 3 = 8 by kernel_rfl, show reachBytes = 140737488351232 from rfl] at this
   simp only [List.length_map, List.length_range] at this
   omega
  have each : ∀ i, i < len → ∃ z : Int, I64 z ∧ w.cell? (a'.add i) = some (.int .i64 z) := fun i hi => by
   obtain ⟨cs', h2, h3⟩ := hel i (by omega)
   rw [c_int, Nat.mul_one] at h2
   obtain ⟨z, e, _, hw⟩ := DataW.trod_int Tryz.underlying3 h3
   simp only [Lit.wf, Bool.and_eq_true, decide_eq_true_eq] at hw
   rw [e] at h2
   exact ⟨z, ⟨hw.1, hw.2⟩, (World.cells?_some h2).2.2 0 (by decide)⟩
  have : ∃ l : List Int, l.length = len ∧ ∀ i (hi : i < l.length), I64 l[i] ∧ w.cell? (a'.add i) = some (.int .i64 l[i]) := by
   clear hm hx hel hlc hd hb hlen h h1 hj ht
   induction len with
   | zero => exact ⟨[], rfl, fun i hi => by simp at hi⟩
   | succ q ih =>
    obtain ⟨l, ho, hall⟩ := ih (fun i hi => each i (by omega))
    obtain ⟨o, h1⟩ := each q (by omega)
    refine ⟨l ++ [o], by simp [ho], fun i hi => ?_⟩
    by_cases hiq : i < l.length
    ·rw [List.getElem_append_left hiq]; exact hall i hiq
    ·have : i = l.length := by simp at hi; omega
     subst this
     rw [List.getElem_append_right (Nat.le_refl _)]
     simp only [Nat.sub_self, List.getElem_cons_zero]
     rw [ho]; exact h1
  obtain ⟨l, ho, hall⟩ := this
  refine ⟨l, ?_, fun x hx => ?_, by omega⟩
  ·by_cases h0 : len = 0
   ·exact Or.inl ⟨List.eq_nil_of_length_eq_zero (by omega), _, _, by rw [h0]⟩
   ·right
    have hf := (hall 0 (by omega)).2
    have hs : a'.spot = none := spot_none (p := a') hf
    obtain ⟨pb, po, ps⟩ := a'
    simp only at hs
    subst hs
    refine ⟨pb, po, cap, by rw [ho], by omega, World.block_lt_of_cell? w _ hf, fun j y hy => ?_⟩
    obtain ⟨hj, hjy⟩ := List.getElem?_eq_some_iff.1 hy
    have := (hall j hj).2
    rw [Addr.add_lit, hjy] at this
    exact this
  ·obtain ⟨j, hj, rfl⟩ := List.getElem_of_mem hx
   exact (hall j hj).1
end Go.Proofs.YtcphhbofjkenaaaGreatDoor
