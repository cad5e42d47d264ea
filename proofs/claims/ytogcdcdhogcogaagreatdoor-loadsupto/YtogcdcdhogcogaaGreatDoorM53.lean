/- PROVED: 'forthwithlaw.Loads' returns true for every script, and the script reads behind the call as it read before; where what is read is of bulk at most 1048576, and the listed variables hold what the program's text lays. -/
import Derived.Test.YtogcdcdhogcogaaGreatDoorM50
import Derived.Deep.Slices
import Derived.Deep.Strs
import Derived.Lib.LaidTab
import Derived.Lib.LaidU8
import Derived.Lib.SmallJoins
import Derived.Carry
import Derived.Deep.DeepHandedRow
import Derived.OpenShut
import Derived.ProofKit
import Derived.Test.YtogcdcdhogcogaaGreatDoorCards
import Derived.Test.YtogcdcdhogcogaaGreatDoorTie

namespace Go.Proofs.YtogcdcdhogcogaaGreatDoor
open Go Go.RowKit
set_option linter.unusedVariables false
set_option linter.unusedSimpArgs false

/-- What is known of the numbers and texts of a step. -/
structure OpD.Ok (o : OpD) : Prop where
  a0 : -9223372036854775808 ≤ o.A
  a1 : o.A ≤ 9223372036854775807
  s : o.S.size ≤ 1100000

theorem firstD_ok (tb ib : Nat) : ∀ o ∈ firstD tb ib, o.Ok := by
  intro o ho
  simp only [firstD, List.mem_cons, List.not_mem_nil, or_false] at ho
  have k0 : (ByteArray.mk #[]).size ≤ 1100000 := by decide
  have k1 : sumT.size ≤ 1100000 := by decide
  have k2 : textT.size ≤ 1100000 := by decide
  rcases ho with rfl | rfl | rfl | rfl | rfl | rfl | rfl <;> constructor <;> first | assumption | (dsimp only; omega)

/-- After so many steps, with so many systems. -/
def StL (B wb : Nat) (w : World) (k m : Nat) : Prop := ∃ lv bk F ds gs, LawAt B w wb lv bk F ds ∧ BookN B w bk F gs ∧ ds.length = m ∧ m ≤ k ∧ gs.length ≤ 4 * k

theorem LawAt.init (W : World) (ht : Tab W) : LawAt W.heap.size (W.alloc (.cells (lwC nilV nilV nilV nilV nilV) 82 (0, 0))) W.heap.size nilV ⟨nilV, nilV, nilV, nilV⟩ (fun _ => False) [] :=
  ⟨blk_new W _ _, ⟨rfl, Or.inl ⟨rfl, rfl⟩⟩, fun i d hd => by simp at hd, fun i j d d' hd => by simp at hd, fun i d hd => by simp at hd, ⟨id, fun _ _ => id⟩, fun k e => e.elim, ht.below ((Below.refl _ _).alloc (Nat.le_refl _) _), ht.lt, Nat.le_refl _⟩
theorem BookN.init (B : Nat) (w : World) : BookN B w ⟨nilV, nilV, nilV, nilV⟩ (fun _ => False) [] :=
  ⟨⟨rfl, Or.inl ⟨rfl, rfl⟩⟩, fun i u hu => by simp at hu, (fun k e => by cases e), fun i u hu => by simp at hu, rfl, rfl, rfl, rfl⟩

theorem loads_plays (all : List OpD) (hok : ∀ o ∈ all, o.Ok) : Plays [1, 2, 3, 4] all StL := by
  refine ⟨?_, ?_, ?_, ?_, ?_, rfl⟩
  · rintro B wb o ho hin w k m ⟨lv, bk, F, ds, gs, hL, hK, hm, hmk, hg⟩ hpos hk
    obtain ⟨h1, h2, h3⟩ := hok o ho
    have fin : ∀ n, (o.k = 1 → n = 1) → ∀ e w', LStep B w wb ds gs n e w' → e = .returned (.bool true) ∧ Below B w w' ∧ ∃ m', StL B wb w' (k + 1) m' ∧ m ≤ m' ∧ (o.k = 1 → 0 < m') := by
      rintro n hn1 e w' ⟨he, lv', bk', F', ds', gs', hL', hK', g1, g2, g3, g4⟩
      exact ⟨he, g4, ds'.length, ⟨lv', bk', F', ds', gs', hL', hK', rfl, by omega, by omega⟩, by omega, fun h => by have := hn1 h; omega⟩
    have hk4 : o.k = 1 ∨ o.k = 2 ∨ o.k = 3 ∨ o.k = 4 := by
      simp only [List.any_cons, List.any_nil, Bool.or_false, Bool.or_eq_true, beq_iff_eq] at hin
      omega
    rcases hk4 with e | e | e | e
    · have := law_step_new hL hK (by omega) o.A o.C o.S o.a1 o.a2 o.a3 o.n1 o.c1 o.n2 o.c2 o.n3 o.c3
      rw [e]
      rw [e] at fin
      exact this.mono (fin 1 (fun _ => rfl))
    · have := law_step_load hL hK (by have := hpos (by omega); omega) (by omega) o.A o.C o.S o.a1 o.a2 o.a3 o.n1 o.c1 o.n2 o.c2 o.n3 o.c3 h1 h2 h3
      rw [e]
      rw [e] at fin
      exact this.mono (fin 0 (fun h => absurd h (by decide)))
    · have := law_step_words hL hK (by have := hpos (by omega); omega) (by omega) (by omega) o.A o.C o.S o.a1 o.a2 o.a3 o.n1 o.c1 o.n2 o.c2 o.n3 o.c3 h1 h2 h3
      rw [e]
      rw [e] at fin
      exact this.mono (fin 0 (fun h => absurd h (by decide)))
    · have := law_step_find hL hK (by have := hpos (by omega); omega) (by omega) o.A o.C o.S o.a1 o.a2 o.a3 o.n1 o.c1 o.n2 o.c2 o.n3 o.c3 h1 h2 h3
      rw [e]
      rw [e] at fin
      exact this.mono (fin 0 (fun h => absurd h (by decide)))
  · rintro B wb w k m ⟨lv, bk, F, ds, gs, hL, hK, hm, hmk, hg⟩ hk
    have hb := hL.blk
    rw [hK.i0, hK.p0, hK.e0] at hb
    exact law_looks B w wb lv bk.n gs hb hK.nms (by omega) hK.mrk
  · rintro B wb w w' k m ⟨lv, bk, F, ds, gs, hL, hK, hm, hmk, hg⟩ hb
    exact ⟨lv, bk, F, ds, gs, hL.below hb, hK.chg (Chg.ofBelow (S := fun _ => False) hb) (fun _ _ => id), hm, hmk, hg⟩
  · intro W ht
    exact ⟨_, _, _, _, _, LawAt.init W ht, BookN.init _ _, rfl, Nat.le_refl _, by simp⟩
  · rintro B wb w k m ⟨lv, bk, F, ds, gs, hL, hK, hm, hmk, hg⟩
    exact ⟨hL.bas.2, hL.blk.lt⟩

theorem play4 (w : World) (t : TypeId) : ∀ j (h : j < [1, 2, 3, 4].length), (w.alloc (.cells #[.int .i64 1, .int .i64 2, .int .i64 3, .int .i64 4] t)).cell? ⟨w.heap.size, j, none⟩ = some (.int .i64 ([1, 2, 3, 4] : List Int)[j]) := by
  intro j h
  have h4 : j < 4 := h
  match j, h4 with
  | 0, _ => simp
  | 1, _ => simp
  | 2, _ => simp
  | 3, _ => simp

set_option maxRecDepth 100000 in
set_option maxHeartbeats 4000000 in
theorem law_loads (w : World) (sv : Value) (ops : List OpD) (hs : ScriptAt w sv ops) (hn : ops.length ≤ 1100000) (ht : Tab w) (hok : ∀ o ∈ ops, o.Ok) :
    Calls Tryz.prog 3 #[sv] w fun e w' => e = .returned (.bool true) ∧ Below w.heap.size w w' := by
  obtain ⟨sa, sn, sc, hsv⟩ : ∃ a n c, sv = .slice a n c := by
    rcases hs with ⟨e, _⟩ | ⟨a, c, e, _⟩
    · exact ⟨_, _, _, e⟩
    · exact ⟨_, _, _, e⟩
  subst hsv
  have hb0 : Below w.heap.size w (w.alloc (.cells #[.int .i64 1, .int .i64 2, .int .i64 3, .int .i64 4] 3 (0, 0))) := (Below.refl _ _).alloc (Nat.le_refl _) _
  have hs0 : ScriptAt (w.alloc (.cells #[.int .i64 1, .int .i64 2, .int .i64 3, .int .i64 4] 3 (0, 0))) (.slice sa sn sc) ops := by
    rcases hs with h | ⟨a, c, e, h⟩
    · exact Or.inl h
    · refine Or.inr ⟨a, c, e, fun j u hu => ?_⟩
      have h1 := h j u hu
      rw [hb0.cell (World.block_lt_of_cell? w _ h1)]; exact h1
  have HP := hidden (law_plays (pl := [1, 2, 3, 4]) (ops := ops) (St := StL) (w.alloc (.cells #[.int .i64 1, .int .i64 2, .int .i64 3, .int .i64 4] 3 (0, 0))) (.slice sa sn sc) w.heap.size 4 (fun tb ib => loads_plays _ (fun o ho => (List.mem_append.1 ho).elim (firstD_ok tb ib o) (hok o))) hs0 hn (ht.below hb0) (by decide) (by decide) (by simp) (play4 w 3))
  have HB := hidden hb0
  clear hs hn ht hok hs0 hb0
  go_enter Tryz.func3, Tryz.ntmps3
  go_wp2_with fail
  refine HP.out.mono ?_
  rintro e w1 ⟨rfl, hb1⟩
  have H1 := hidden hb1
  clear HP hb1
  go_wp2_with fail
  go_ret
  exact ⟨rfl, HB.out.trans (H1.out.mono (by simp))⟩

end Go.Proofs.YtogcdcdhogcogaaGreatDoor

/- What a row's reading gives: the table and the errors stand; a script lies in memory. -/
namespace Go.Proofs.YtogcdcdhogcogaaGreatDoor
open Go Go.RowKit Go.ChangeShapes Go.WideShapes
set_option linter.unusedVariables false
set_option linter.unusedSimpArgs false

section
variable {H : Type} {enc : TypeId × Value → H} {P : Program} {w : World} {base : Nat} {sp : Nat → Bool} {held : Bool}

theorem str_inj {s t : ByteArray} (h : s.data.toList = t.data.toList) : s = t := by
  obtain ⟨⟨s⟩⟩ := s
  obtain ⟨⟨t⟩⟩ := t
  simp at h
  rw [h]

/-- One row of the table. -/
def tripD {H : Type} (x : ByteArray × Int × Int) : DataW H := .agg [.lit (.string x.1.data.toList), .lit (.int .i64 x.2.1), .lit (.int .i64 x.2.2)]

theorem trip_cells {e st it : TypeId} {f0 f1 f2 : Field} {fuel : Nat} {cs : List Value} {p : List MemPlace} {x : ByteArray × Int × Int} (he : P.underlying e = some (.struct #[f0, f1, f2])) (hs : P.underlying st = some .string) (hi : P.underlying it = some (.int .i64))
    (h0 : f0.type = st ∧ f0.offset = 0) (h1 : f1.type = it ∧ f1.offset = 1) (h2 : f2.type = it ∧ f2.offset = 2) (c0 : P.cellsOf st = 1) (c1 : P.cellsOf it = 1) (c2 : P.cellsOf e = 3)
    (h : DataW.trod enc P w base sp held fuel e cs = some (tripD x, p)) : cs = [.string x.1, .int .i64 x.2.1, .int .i64 x.2.2] := by
  obtain ⟨y0, y1, y2, n, hx, hl, t0, t1, t2⟩ := Deep.trod_struct3 he h
  rw [h0.1, h0.2, c0] at t0
  rw [h1.1, h1.2, c1] at t1
  rw [h2.1, h2.2, c1] at t2
  rw [c2] at hl
  match cs, hl with
  | [v0, v1, v2], _ =>
    obtain ⟨s, e0, e1, _⟩ := DataW.trod_string hs t0
    obtain ⟨a, e2, e3, _⟩ := DataW.trod_int hi t1
    obtain ⟨b, e4, e5, _⟩ := DataW.trod_int hi t2
    simp at e0 e2 e4
    subst e0; subst e2; subst e4
    have hd := congrArg Prod.fst hx
    simp [tripD, e1, e3, e5] at hd
    obtain ⟨d1, d2, d3⟩ := hd
    have d1' : x.1.data.toList = s.data.toList := by simpa using d1
    rw [str_inj d1', d2, d3]

theorem trips_cells {t e st it : TypeId} {n : Nat} {f0 f1 f2 : Field} {fuel : Nat} {cs : List Value} {p : List MemPlace} (rows : List (ByteArray × Int × Int)) (ht : P.underlying t = some (.array n e)) (he : P.underlying e = some (.struct #[f0, f1, f2])) (hs : P.underlying st = some .string) (hi : P.underlying it = some (.int .i64))
    (h0 : f0.type = st ∧ f0.offset = 0) (h1 : f1.type = it ∧ f1.offset = 1) (h2 : f2.type = it ∧ f2.offset = 2) (c0 : P.cellsOf st = 1) (c1 : P.cellsOf it = 1) (c2 : P.cellsOf e = 3) (c3 : P.cellsOf t = n * 3)
    (h : DataW.trod enc P w base sp held fuel t cs = some (.agg (rows.map tripD), p)) : cs = rows.flatMap fun x => [.string x.1, .int .i64 x.2.1, .int .i64 x.2.2] := by
  cases fuel with
  | zero => simp [DataW.trod] at h
  | succ fuel =>
    simp only [DataW.trod, ht, c2, c3] at h
    split at h
    · rename_i hl
      obtain ⟨xs, hm, hx⟩ := Option.map_eq_some_iff.1 h
      have hxs : xs.map (·.1) = rows.map (tripD (H := H)) := by
        have := congrArg Prod.fst hx
        simpa using this
      have hxl : xs.length = n := by simpa using Lib.mapM_length hm
      have hrl : rows.length = n := by
        have := congrArg List.length hxs
        simp at this
        omega
      have key : ∀ i (hi' : i < rows.length), (cs.drop (i * 3)).take 3 = [.string rows[i].1, .int .i64 rows[i].2.1, .int .i64 rows[i].2.2] := fun i hi' => by
        obtain ⟨b, hb, hf⟩ := Lib.mapM_at hm i i (by simp [show i < n by omega])
        have hb1 : b.1 = tripD rows[i] := by
          have h3 : (xs.map (·.1))[i]? = some b.1 := by simp [hb]
          rw [hxs, List.getElem?_map, List.getElem?_eq_getElem hi'] at h3
          simpa using h3.symm
        obtain ⟨b1, b2⟩ := b
        simp only at hb1
        subst hb1
        exact trip_cells he hs hi h0 h1 h2 c0 c1 c2 hf
      have hfl : (rows.flatMap fun x => [Value.string x.1, .int .i64 x.2.1, .int .i64 x.2.2]).length = rows.length * 3 := flat_length _ 3 (fun _ => rfl) rows
      apply List.ext_getElem?
      intro j
      by_cases hj : j < rows.length * 3
      · have hq : j / 3 < rows.length := by omega
        have hr : j % 3 < 3 := Nat.mod_lt _ (by omega)
        have hjj : j / 3 * 3 + j % 3 = j := by omega
        have h5 := flat_get (fun x : ByteArray × Int × Int => [Value.string x.1, .int .i64 x.2.1, .int .i64 x.2.2]) 3 (fun _ => rfl) rows (j / 3) (j % 3) hq hr
        rw [hjj] at h5
        rw [h5, ← key (j / 3) hq, List.getElem?_take, if_pos hr, List.getElem?_drop, hjj]
      · rw [List.getElem?_eq_none (by omega), List.getElem?_eq_none (by omega)]
    · cases h

/-- A value of interface type that was read. -/
theorem iface_cells {t : TypeId} {ms : Array (String × TypeId)} {fuel : Nat} {cs : List Value} {x : DataW H × List MemPlace} (ht : P.underlying t = some (.interface ms)) (h : DataW.trod enc P w base sp held fuel t cs = some x) : cs = [.nilIface] ∨ ∃ u v, cs = [.iface u v] := by
  cases fuel with
  | zero => simp [DataW.trod] at h
  | succ n =>
    unfold DataW.trod at h
    rw [ht] at h
    split at h <;> simp_all

/-- A slice that was read: its shape. -/
theorem slice_shape {t e : TypeId} {fuel : Nat} {v : Value} {x : DataW H × List MemPlace} (ht : P.underlying t = some (.slice e)) (h : DataW.trod enc P w base sp held fuel t [v] = some x) : ∃ a n c, v = .slice a n c := by
  rcases Deep.open_slice ht h with ⟨h1, _⟩ | ⟨a, len, cap, m, n, D, Pl, h1, _⟩
  · exact ⟨none, 0, 0, by simpa using h1⟩
  · exact ⟨some a, len, cap, by simpa using h1⟩

theorem struct7 {t : TypeId} {f0 f1 f2 f3 f4 f5 f6 : Field} {fuel : Nat} {cs : List Value} {x : DataW H × List MemPlace} (ht : P.underlying t = some (.struct #[f0, f1, f2, f3, f4, f5, f6])) (h : DataW.trod enc P w base sp held fuel t cs = some x) :
    ∃ y0 y1 y2 y3 y4 y5 y6 n, x.1 = .agg [y0.1, y1.1, y2.1, y3.1, y4.1, y5.1, y6.1] ∧ cs.length = P.cellsOf t ∧
      DataW.trod enc P w base sp held n f0.type ((cs.drop f0.offset).take (P.cellsOf f0.type)) = some y0 ∧ DataW.trod enc P w base sp held n f1.type ((cs.drop f1.offset).take (P.cellsOf f1.type)) = some y1 ∧
      DataW.trod enc P w base sp held n f2.type ((cs.drop f2.offset).take (P.cellsOf f2.type)) = some y2 ∧ DataW.trod enc P w base sp held n f3.type ((cs.drop f3.offset).take (P.cellsOf f3.type)) = some y3 ∧
      DataW.trod enc P w base sp held n f4.type ((cs.drop f4.offset).take (P.cellsOf f4.type)) = some y4 ∧ DataW.trod enc P w base sp held n f5.type ((cs.drop f5.offset).take (P.cellsOf f5.type)) = some y5 ∧
      DataW.trod enc P w base sp held n f6.type ((cs.drop f6.offset).take (P.cellsOf f6.type)) = some y6 := by
  obtain ⟨xs, n, _, rfl, hl, hlen, hf⟩ := DataW.trod_struct ht h
  match xs, hlen with
  | [y0, y1, y2, y3, y4, y5, y6], _ =>
    exact ⟨y0, y1, y2, y3, y4, y5, y6, n, by simp, hl, by simpa using hf 0 f0 rfl, by simpa using hf 1 f1 rfl, by simpa using hf 2 f2 rfl, by simpa using hf 3 f3 rfl, by simpa using hf 4 f4 rfl, by simpa using hf 5 f5 rfl, by simpa using hf 6 f6 rfl⟩
end

theorem c_int : Tryz.prog.cellsOf 3 = 1 := by kernel_rfl
theorem c_str : Tryz.prog.cellsOf 9 = 1 := by kernel_rfl
theorem c_row : Tryz.prog.cellsOf 250 = 3 := by kernel_rfl
theorem c_rows : Tryz.prog.cellsOf 251 = 35 * 3 := by kernel_rfl
theorem c_op : Tryz.prog.cellsOf 84 = 7 := by kernel_rfl
theorem c_ints : Tryz.prog.cellsOf 24 = 1 := by kernel_rfl
theorem c_tasks : Tryz.prog.cellsOf 55 = 1 := by kernel_rfl
theorem g_rows : Tryz.prog.globalNamed "forthwith/code.rows" = some 0 := by kernel_rfl
theorem g_rowsT : (Tryz.prog.globals[(0 : Nat)]?).map (·.type) = some 251 := by kernel_rfl
theorem g_syn : Tryz.prog.globalNamed "strconv.ErrSyntax" = some 1 := by kernel_rfl
theorem g_synT : (Tryz.prog.globals[(1 : Nat)]?).map (·.type) = some 262 := by kernel_rfl
theorem g_ran : Tryz.prog.globalNamed "strconv.ErrRange" = some 2 := by kernel_rfl
theorem g_ranT : (Tryz.prog.globals[(2 : Nat)]?).map (·.type) = some 262 := by kernel_rfl

theorem var_heap {P : Program} {W : World} {n : String} {g : Nat} {cs : Array Value} (hg : P.globalNamed n = some g) (h : W.var? P n = some cs) : ∃ t f, W.heap[g]? = some (.cells cs t f) := by
  unfold World.var? at h
  rw [hg] at h
  simp only [Option.bind_some] at h
  split at h
  · rename_i cs' t f he
    exact ⟨t, f, by rw [he]; simpa using h⟩
  · cases h

theorem err_of_reads {W : World} {n : String} {g : Nat} {d : DataW Unit} (hg : Tryz.prog.globalNamed n = some g) (ht : (Tryz.prog.globals[g]?).map (·.type) = some 262) (h : Lib.VarReads Tryz.prog W n d) : ErrAt W g := by
  obtain ⟨g', t', cs, fuel, p, h1, h2, h3, h4⟩ := h
  obtain rfl := Option.some.inj (hg.symm.trans h1)
  obtain rfl := Option.some.inj (ht.symm.trans h2)
  obtain ⟨t, f, hh⟩ := var_heap hg h3
  rcases iface_cells Tryz.underlying262 h4 with e | ⟨u, v, e⟩
  · have hc : cs[0]? = some .nilIface := by rw [← Array.getElem?_toList, e]; rfl
    exact ⟨.nilIface, by simp [World.cell?, hh, hc], Or.inl rfl⟩
  · have hc : cs[0]? = some (.iface u v) := by rw [← Array.getElem?_toList, e]; rfl
    exact ⟨.iface u v, by simp [World.cell?, hh, hc], Or.inr ⟨u, v, rfl⟩⟩

theorem tab_of_laid {W : World} {l : List (String × DataW Unit)} (h : laidMet Tryz.prog l W) (h1 : ("forthwith/code.rows", Rows.laid_forthwith_code_rows) ∈ l) (h2 : ("strconv.ErrSyntax", Rows.laid_strconv_ErrSyntax) ∈ l) (h3 : ("strconv.ErrRange", Rows.laid_strconv_ErrRange) ∈ l) : Tab W := by
  refine ⟨?_, err_of_reads g_syn g_synT (Lib.laidMet.reads h h2), err_of_reads g_ran g_ranT (Lib.laidMet.reads h h3)⟩
  obtain ⟨g', t', cs, fuel, p, e1, e2, e3, e4⟩ := Lib.laidMet.reads h h1
  obtain rfl := Option.some.inj (g_rows.symm.trans e1)
  obtain rfl := Option.some.inj (g_rowsT.symm.trans e2)
  obtain ⟨t, f, hh⟩ := var_heap g_rows e3
  have hc := trips_cells opTab Tryz.underlying251 Tryz.underlying250 Tryz.underlying9 Tryz.underlying3 ⟨rfl, rfl⟩ ⟨rfl, rfl⟩ ⟨rfl, rfl⟩ c_str c_int c_row c_rows (by rw [e4]; rfl)
  refine ⟨t, f, ?_⟩
  rw [hh]
  have : cs = opCells.toArray := by
    rw [← Array.toArray_toList (xs := cs), hc]; rfl
  rw [this]

theorem bulk_part {H : Type} {d : DataW H} {l : List (DataW H)} (h : d ∈ l) : Rows.uptoBulk d ≤ Rows.uptoBulkAll l := by
  induction l with
  | nil => cases h
  | cons x r ih =>
    simp only [Rows.uptoBulkAll]
    rcases List.mem_cons.1 h with e | e
    · subst e; omega
    · have := ih e; omega
theorem bulk_one {H : Type} (d : DataW H) : 1 ≤ Rows.uptoBulk d := by
  cases d with
  | lit l => cases l <;> simp [Rows.uptoBulk]
  | nil => simp [Rows.uptoBulk]
  | ptr d => simp [Rows.uptoBulk]
  | slice elems spare => simp [Rows.uptoBulk]
  | agg parts => simp [Rows.uptoBulk]
  | iface t d => simp [Rows.uptoBulk]
  | map entries => simp [Rows.uptoBulk]
  | held h => simp [Rows.uptoBulk]
theorem bulk_len {H : Type} (l : List (DataW H)) : l.length ≤ Rows.uptoBulkAll l := by
  induction l with
  | nil => simp [Rows.uptoBulkAll]
  | cons x r ih => have := bulk_one x; simp only [Rows.uptoBulkAll, List.length_cons]; omega

/-- One step that was read. -/
theorem op_of_trod {H : Type} {enc : TypeId × Value → H} {w : World} {fuel : Nat} {cs : List Value} {x : DataW H × List MemPlace} (h : DataW.trod enc Tryz.prog w 0 (fun _ => true) true fuel 84 cs = some x) (hb : Rows.uptoBulk x.1 ≤ 1048576) :
    ∃ o : OpD, cs = o.cells ∧ o.Ok := by
  obtain ⟨y0, y1, y2, y3, y4, y5, y6, n, hx, hl, t0, t1, t2, t3, t4, t5, t6⟩ := struct7 Tryz.underlying84 h
  simp only [c_int, c_str, c_ints, c_tasks] at t0 t1 t2 t3 t4 t5 t6
  rw [c_op] at hl
  match cs, hl with
  | [v0, v1, v2, v3, v4, v5, v6], _ =>
    obtain ⟨a0, e0, _, _⟩ := DataW.trod_int Tryz.underlying3 t0
    obtain ⟨a1, e1, _, w1⟩ := DataW.trod_int Tryz.underlying3 t1
    obtain ⟨a2, e2, _, _⟩ := DataW.trod_int Tryz.underlying3 t2
    obtain ⟨s, e3, e3', _⟩ := DataW.trod_string Tryz.underlying9 t3
    obtain ⟨p1, n1, q1, e4⟩ := slice_shape Tryz.underlying24 (v := v4) (by simpa using t4)
    obtain ⟨p2, n2, q2, e5⟩ := slice_shape Tryz.underlying24 (v := v5) (by simpa using t5)
    obtain ⟨p3, n3, q3, e6⟩ := slice_shape Tryz.underlying55 (v := v6) (by simpa using t6)
    simp at e0 e1 e2 e3
    subst e0; subst e1; subst e2; subst e3; subst e4; subst e5; subst e6
    refine ⟨⟨a0, a1, a2, s, p1, n1, q1, p2, n2, q2, p3, n3, q3⟩, rfl, ?_⟩
    have hw : -9223372036854775808 ≤ a1 ∧ a1 ≤ 9223372036854775807 := by
      have h : IntKind.min .i64 ≤ a1 ∧ a1 ≤ IntKind.max .i64 := by simpa only [Lit.wf, Bool.and_eq_true, decide_eq_true_eq] using w1
      have e1 : IntKind.min .i64 = -9223372036854775808 := by decide
      have e2 : IntKind.max .i64 = 9223372036854775807 := by decide
      rw [e1, e2] at h; exact h
    refine ⟨hw.1, hw.2, ?_⟩
    rw [hx] at hb
    have h3 : y3.1 ∈ [y0.1, y1.1, y2.1, y3.1, y4.1, y5.1, y6.1] := by simp
    have h4 := bulk_part h3
    simp only [Rows.uptoBulk] at hb
    have h6 : Rows.uptoBulk y3.1 = s.data.toList.length + 1 := by rw [e3']; simp only [Rows.uptoBulk]
    have h5 : s.data.toList.length = s.size := Array.length_toList
    show s.size ≤ 1100000
    omega

/-- A script that was read. -/
theorem script_of_trod {H : Type} {enc : TypeId × Value → H} {w : World} {a : Option Addr} {len cap : Nat} {d : DataW H} {p : List MemPlace} (h : DataW.Trod enc Tryz.prog w 0 (fun _ => true) true 22 (.slice a len cap) d p) (hb : Rows.uptoBulk d ≤ 1048576) :
    ∃ ops, ScriptAt w (.slice a len cap) ops ∧ ops.length ≤ 1100000 ∧ ∀ o ∈ ops, o.Ok := by
  obtain ⟨fuel, h⟩ := h
  rcases Deep.open_slice Tryz.underlying22 h with ⟨h1, _⟩ | ⟨a', len', cap', m, n, D, Pl, h1, _, hlc, _, hm, hx, hel⟩
  · refine ⟨[], Or.inl ⟨by simpa [Value.cells] using h1, rfl⟩, by simp, fun o ho => by cases ho⟩
  · obtain ⟨rfl, rfl, rfl⟩ : a = some a' ∧ len = len' ∧ cap = cap' := by simpa [Value.cells] using h1
    simp only [if_true] at hm
    have hd : d = .slice ((List.range len).map D) ((List.range (m - len)).map fun j => D (len + j)) := congrArg Prod.fst hx
    rw [hd] at hb
    simp only [Rows.uptoBulk] at hb
    have hlen : len ≤ 1048576 := by
      have := bulk_len ((List.range len).map D)
      simp at this; omega
    have each : ∀ i, i < len → ∃ o : OpD, w.cells? 0 (a'.add (i * 7)) 7 = some o.cells ∧ o.Ok := fun i hi => by
      obtain ⟨cs', h2, h3⟩ := hel i (by omega)
      rw [c_op] at h2
      have hDi : Rows.uptoBulk (D i) ≤ 1048576 := by
        have : D i ∈ (List.range len).map D := List.mem_map.2 ⟨i, List.mem_range.2 hi, rfl⟩
        have := bulk_part this
        omega
      obtain ⟨o, ho, hok⟩ := op_of_trod h3 hDi
      exact ⟨o, by rw [h2, ho], hok⟩
    have : ∃ ops : List OpD, ops.length = len ∧ ∀ i (hi : i < ops.length), w.cells? 0 (a'.add (i * 7)) 7 = some ops[i].cells ∧ ops[i].Ok := by
      clear hm hx hel hlc hd hb hlen h h1
      induction len with
      | zero => exact ⟨[], rfl, fun i hi => by simp at hi⟩
      | succ q ih =>
        obtain ⟨ops, ho, hall⟩ := ih (fun i hi => each i (by omega))
        obtain ⟨o, h1, h2⟩ := each q (by omega)
        refine ⟨ops ++ [o], by simp [ho], fun i hi => ?_⟩
        by_cases hiq : i < ops.length
        · rw [List.getElem_append_left hiq]; exact hall i hiq
        · have : i = ops.length := by simp at hi; omega
          subst this
          rw [List.getElem_append_right (Nat.le_refl _)]
          simp only [Nat.sub_self, List.getElem_cons_zero]
          rw [ho]; exact ⟨h1, h2⟩
    obtain ⟨ops, ho, hall⟩ := this
    refine ⟨ops, Or.inr ⟨a', cap, by rw [ho], fun j u hu => ?_⟩, by omega, fun o hmem => ?_⟩
    · have hj : j < ops.length * 7 := by
        have := (List.getElem?_eq_some_iff.1 hu).1
        rw [opsC_len] at this; exact this
      have hq : j / 7 < ops.length := by omega
      have hr : j % 7 < 7 := Nat.mod_lt _ (by omega)
      have hjj : j / 7 * 7 + j % 7 = j := by omega
      have h5 := flat_get OpD.cells 7 (fun _ => rfl) ops (j / 7) (j % 7) hq hr
      rw [hjj] at h5
      have h5' : (opsC ops)[j]? = (ops[j / 7]).cells[j % 7]? := h5
      rw [hu] at h5'
      have h6 := (World.cells?_some (hall (j / 7) hq).1).2.2 (j % 7) hr
      rw [Deep.add_add, hjj] at h6
      rw [h6, ← h5']
    · obtain ⟨i, hi, rfl⟩ := List.getElem_of_mem hmem
      exact (hall i hi).2

end Go.Proofs.YtogcdcdhogcogaaGreatDoor

namespace Go.Proofs.YtogcdcdhogcogaaGreatDoor
open Go Go.ChangeShapes Go.WideShapes Go.ChangeAt Go.RowKit
set_option linter.unusedVariables false

theorem own : ownKnob Tryz.prog.godebug = none := by kernel_rfl
theorem laidOut : laidOutB Tryz.prog = true := by kernel_rfl

/-- What the listed variables hold, as cells. -/
def litV : DataW Unit → Value
  | .lit (.int k z) => .int k z
  | _ => undef
def aggV : DataW Unit → Array Value
  | .agg l => (l.map litV).toArray
  | _ => #[]
def putV (h : Array Obj) (g : Nat) (cs : Array Value) : Array Obj := h.modify g fun
  | .cells _ t frozen => .cells cs t frozen
  | o => o
/-- The two errors' own blocks. -/
def errObjs : Array Obj := #[.cells #[.string ⟨#[118, 97, 108, 117, 101, 32, 111, 117, 116, 32, 111, 102, 32, 114, 97, 110, 103, 101]⟩] 293, .cells #[.string ⟨#[105, 110, 118, 97, 108, 105, 100, 32, 115, 121, 110, 116, 97, 120]⟩] 293]
/-- The variables hold what the program's text lays; the errors' blocks begin at low. -/
def laidHeap (h : Array Obj) (low : Nat) : Array Obj :=
  putV (putV (putV (putV (putV (putV h 0 opCells.toArray) 2 #[.iface 291 (.pointer (some ⟨low, 0, none⟩))]) 1 #[.iface 291 (.pointer (some ⟨low + 1, 0, none⟩))])
    3 (aggV Rows.laid_internal_strconv_uint64pow10)) 4 (aggV Rows.laid_math_bits_deBruijn32tab)) 5 (aggV Rows.laid_math_bits_deBruijn64tab)
theorem laid_met (os : Os) : laidMet Tryz.prog Rows.loadsUptoRow.laid (({ World.holding Tryz.prog os ⟨errObjs, #[], []⟩ with heap := laidHeap (World.holding Tryz.prog os ⟨errObjs, #[], []⟩).heap (World.holding Tryz.prog default ⟨#[], #[], []⟩).heap.size } : World).forCall (fun _ _ => 0) ⟨#[], #[.slice none 0 0], []⟩).memory :=
  laidMet_of_run' 8 (by kernel_rfl) (by kernel_rfl)
theorem reads (os : Os) {H : Type} (enc : TypeId × Value → H) : ∃ places, DataW.whole enc Tryz.prog (({ World.holding Tryz.prog os ⟨errObjs, #[], []⟩ with heap := laidHeap (World.holding Tryz.prog os ⟨errObjs, #[], []⟩).heap (World.holding Tryz.prog default ⟨#[], #[], []⟩).heap.size } : World).forCall (fun _ _ => 0) ⟨#[], #[.slice none 0 0], []⟩).memory Tryz.f3.params.toList Rows.loadsSpec.vars false #[Value.slice none 0 0].toList 8 = some ([.nil], [], places) :=
  ⟨[], by kernel_rfl⟩

set_option maxRecDepth 100000 in
/-- What the walk gives, for every argument and every world that holds the variables. -/
theorem contract (H : Type) (enc : TypeId × Value → H) (W : World) (base : Nat) (args : Array Value) (ds gs : List (DataW H)) (before : List MemPlace)
    (hval : ∀ (j : Nat) t v, Tryz.f3.params[j]? = some t → args[j]? = some v → Value.okWide Tryz.prog W .any base t v)
    (hW : DataW.Whole enc Tryz.prog Tryz.f3.params.toList Rows.loadsSpec.vars false W args.toList ds gs before) (hL : laidMetH Tryz.prog Rows.loadsUptoRow.laid W) (hc : Rows.uptoSmall H (ds ++ gs) = true) :
    Calls Tryz.prog 3 args W fun e W' => ∃ v, e = .returned v ∧ Rows.loadsSpec.post enc Tryz.prog Tryz.f3 false true false false W args v W' := by
  have hW' := hW
  obtain ⟨p, q, hA0, hV, rfl, _, _⟩ := hW
  have hA : DataW.TrodAll enc Tryz.prog W 0 (fun _ => true) true Tryz.f3.params.toList args.toList ds p := hA0
  rw [Tryz.params3] at hA hval
  obtain ⟨v0, d0, rfl, rfl, h0⟩ := trodAll_one hA
  obtain ⟨rfl, rfl⟩ := trodVars_none hV
  obtain ⟨a, len, cap, rfl⟩ := okWide_slice Tryz.underlying22 (hval 0 22 v0 rfl rfl)
  clear hA0
  simp only [List.append_nil] at hW' hc
  have hL' : laidMet Tryz.prog Rows.loadsUptoRow.laid W := hL
  have hT : Tab W := tab_of_laid hL' (by simp [Rows.loadsUptoRow]) (by simp [Rows.loadsUptoRow]) (by simp [Rows.loadsUptoRow])
  have hb : Rows.uptoBulk d0 ≤ 1048576 := by
    have h1 := of_decide_eq_true hc
    simp only [Rows.uptoBulkAll] at h1
    omega
  obtain ⟨ops, hs, hn, hok⟩ := script_of_trod h0 hb
  have hlt : ∀ x ∈ p, x.block < W.heap.size := fun x hx => by simpa using hW'.lt x hx
  refine (law_loads W _ ops hs hn hT hok).mono fun e W' ⟨he, hbel⟩ => ?_
  subst he
  have g0 := Below.trod laidOut (by kernel_rfl) (of_decide_eq_true (by kernel_rfl)) h0 hbel hlt
  exact ⟨_, rfl, _, _, _, [], _, [], hW', trodAll_mk1 (shut_bool Tryz.underlying4 _), trodAll_mk1 g0, rfl, hbel.frame _, fun h => by cases h⟩

set_option maxRecDepth 100000 in
theorem liftedUpto (os : Os) (started : os.Started) (H : Type) (enc : TypeId × Value → H) (F : Stop.Interp) :
    ReturnsInHanded {} Tryz.checked os 3 .any ((Rows.OpenSpec.upto Rows.loadsSpec).preRow enc Tryz.prog Tryz.f3 Rows.loadsUptoRow.domain false Rows.loadsUptoRow.laid) (((Rows.OpenSpec.upto Rows.loadsSpec).at F).post enc Tryz.prog Tryz.f3 false true false false) := by
  obtain ⟨places, hx⟩ := reads os enc
  refine returnsInHanded_of_row (C := Tryz.checked) (s := Rows.OpenSpec.upto Rows.loadsSpec) own started (by kernel_rfl) Tryz.func3
    (witness_row_at (enc := enc) (C := Tryz.checked) false ({ World.holding Tryz.prog os ⟨errObjs, #[], []⟩ with heap := laidHeap (World.holding Tryz.prog os ⟨errObjs, #[], []⟩).heap (World.holding Tryz.prog default ⟨#[], #[], []⟩).heap.size } : World) #[.slice none 0 0] rfl (by kernel_rfl) (by kernel_rfl) (by kernel_rfl)
      (OpenSpec.preRow_of_cond 8 hx (by kernel_rfl) (fun k hk => by cases hk; kernel_rfl) (by kernel_rfl) (laid_met os))) ?_
  intro W base args ds gs before hval hW _ hcond _ hL _ _
  exact contract H enc W base args ds gs before hval hW hL (hcond _ rfl)

theorem saidUpto : Rows.LoadsUptoSaid :=
  OpenClaim.holds_of_cond 3 Tryz.f3 rfl rfl rfl rfl rfl rfl rfl ⟨rfl, rfl, rfl, rfl, rfl⟩ rfl rfl rfl rfl rfl (by kernel_rfl) Tryz.func3 (by kernel_rfl)
    (of_decide_eq_true (by kernel_rfl)) (by unfold Func.isWrapper; first | (rw [if_pos (by decide +kernel)]; kernel_rfl) | (rw [if_neg (by decide +kernel)]; exact ⟨rfl, rfl⟩))
    (fun os started H enc _ F => by rw [OpenClaim.pre_eq_preRow]; exact liftedUpto os started H enc F)

/-- No parameter wants a stand-in; the program's own looks are off. -/
theorem plain (f : FuncId) (fn : Func) (hf : Tryz.pinned.checked.prog.funcNamed "forthwith/forthwithlaw.Loads" = some f) (hfn : Tryz.pinned.checked.prog.funcs[f]? = some fn) :
    true = Tryz.pinned.checked.prog.looks [] ∧ ∀ (j : Nat) t, fn.params[j]? = some t → Tryz.pinned.checked.prog.wantsStandIn t = false := by
  obtain rfl : f = 3 := Option.some.inj ((show Tryz.prog.funcNamed "forthwith/forthwithlaw.Loads" = some 3 by kernel_rfl).symm.trans hf) |>.symm
  obtain rfl : fn = Tryz.f3 := (Option.some.inj (Tryz.func3.symm.trans hfn)).symm
  refine ⟨by kernel_rfl, fun j t ht => ?_⟩
  rw [Tryz.params3] at ht
  obtain rfl : t = 22 := by simpa using Array.mem_of_getElem? ht
  exact (show Tryz.prog.wantsStandIn 22 = false by kernel_rfl)

/-- The second form's card of 'Loads'. -/
theorem loads_holds : Rows.LoadsUptoCardSaid :=
  Claim7.holds_tied_plain_at .later [] _ _ _ _ saidUpto (fun _ h => by cases h) (by kernel_rfl) (fun _ h => by cases h) loadsUpto_row_tie rfl ⟨rfl, rfl⟩ (by kernel_rfl) rfl plain (by kernel_rfl)

end Go.Proofs.YtogcdcdhogcogaaGreatDoor
