import Derived.Deep.QuietTactic
import Derived.Test.YtcphhbofjkenaaaGreatDoorU09
namespace Go.Proofs.YtcphhbofjkenaaaGreatDoor
set_option maxHeartbeats 16000000
open Go.RowKit
set_option linter.unusedVariables false
set_option linter.unusedSimpArgs false
structure PE where
 name : ByteArray
 var : Bool
 place : Int
 inf : Inf
def PE.cells (e : PE) : List Value := [.string e.name, .bool e.var, .int .i64 e.place, .int .i64 e.inf.need, .int .i64 e.inf.net, .int .i64 e.inf.high, .int .i64 e.inf.steps, .bool (!e.inf.str)]
def PE.val (e : PE) : Value := .agg #[.string e.name, .bool e.var, .int .i64 e.place, .int .i64 e.inf.need, .int .i64 e.inf.net, .int .i64 e.inf.high, .int .i64 e.inf.steps, .bool (!e.inf.str)]
def PE.zero : PE := ⟨⟨#[]⟩, false, 0, Inf.zero⟩
structure PSys (w : World) (bb : Nat) (ev cv : Value) (es : List PE) (nv nt : Int) (code : List Int) : Prop where
 blk : Blk w bb #[ev, .int .i64 nv, .int .i64 nt, cv] 122
 row : w.ownsRow 3 153 8 ev es.length (es.flatMap PE.cells)
 cod : w.ownsRow 3 3 1 cv code.length (code.map (Value.int .i64))
 up : 3 ≤ bb
def lastP (es : List PE) (s : ByteArray) : Nat → Option PE
 | 0 => none
 | k + 1 => if ((es.getD k PE.zero).name.toList == s.toList) = true then some (es.getD k PE.zero) else lastP es s k
def lastRes : Option PE → Value
 | some e => .tuple #[e.val, .bool true]
 | none => .tuple #[PE.zero.val, .bool false]
theorem pe_cells {w : World} {bb : Nat} {ev cv : Value} {es : List PE} {nv nt : Int} {code : List Int} (h : PSys w bb ev cv es nv nt code) (i : Nat) (hi : i < es.length) :
  ∃ g cap, ev = .slice (some ⟨g, 0, none⟩) es.length cap ∧ es.length ≤ cap ∧ g < w.heap.size ∧ ∀ j, j < 8 → w.cell? ⟨g, i * 8 + j, none⟩ = (es.getD i PE.zero).cells[j]? := by
 obtain ⟨g, cap, hv, _, hg, h1, _, hc⟩ := row_cells h.row (by omega)
 refine ⟨g, cap, hv, h1, hg, fun j hj => ?_⟩
 have e := flat_get PE.cells 8 (fun _ => rfl) es i j hi hj
 have hx : es.getD i PE.zero = es[i] := by simp [hi]
 rw [hx]
 have hlt : j < (es[i]).cells.length := hj
 rw [List.getElem?_eq_getElem hlt] at e ⊢
 exact hc _ _ e
theorem book_last {w : World} {bb : Nat} {ev cv : Value} {es : List PE} {nv nt : Int} {code : List Int} (s : ByteArray) (h : PSys w bb ev cv es nv nt code) (hl : es.length ≤ 1000) :
  Calls Tryz.prog 105 #[.pointer (some ⟨bb, 0, none⟩), .string s] w fun e w' => e = .returned (lastRes (lastP es s es.length)) ∧ Below w.heap.size w w' := by
 obtain ⟨R, hR⟩ : ∃ R, R = lastP es s es.length := ⟨_, rfl⟩
 rw [← hR]
 have c0 : w.cell? ⟨bb, 0, none⟩ = some ev := h.blk.cell 0 _ rfl
 obtain ⟨ad, cap, rfl, hcap, _⟩ := row_shape h.row
 have hlt := h.blk.lt
 have HP := hidden h
 have HR := hidden hR
 clear h hR
 go_enter Tryz.func105, Tryz.ntmps105
 go_wp2_with fail
 go_loop [6] (fun i => ∃ j : Nat, j ≤ es.length ∧ i = .int .i64 ((j : Int) - 1) ∧ Hid (R = lastP es s j)) (fun i => (intOf i + 1).toNat)
 case atStart => exact ⟨es.length, Nat.le_refl _, rfl, HR⟩
 case round =>
  clear HR
  obtain ⟨j, hj, rfl, HR⟩ := hrel
  by_cases hz : j = 0
  ·have HX : Hid (R = none) := by have := HR.out; rw [hz] at this; exact this
   subst hz
   go_wp2_with fail
   refine bodyPost_ret (v := .tuple #[PE.zero.val, .bool false]) (by simp [results, Tryz.results105, go_sem]; rfl) rfl ⟨?_, (Below.refl _ _).alloc (Nat.le_refl _) _⟩
   rw [HX.out]; rfl
  ·obtain ⟨k, rfl⟩ : ∃ k, j = k + 1 := ⟨j - 1, by omega⟩
   have e1 : ((k + 1 : Nat) : Int) - 1 = (k : Int) := by omega
   rw [e1]
   obtain ⟨x, hx⟩ : ∃ x, x = es.getD k PE.zero := ⟨_, rfl⟩
   obtain ⟨g, cap', hve, _, hg, hcell⟩ := pe_cells HP.out k (by omega)
   obtain ⟨rfl, rfl⟩ : ad = some ⟨g, 0, none⟩ ∧ cap = cap' := by simpa using hve
   rw [← hx] at hcell
   have d0 : w.cell? ⟨g, k * 8, none⟩ = some (.string x.name) := by simpa [PE.cells] using hcell 0 (by omega)
   have d1 : w.cell? ⟨g, k * 8 + 1, none⟩ = some (.bool x.var) := by simpa [PE.cells] using hcell 1 (by omega)
   have d2 : w.cell? ⟨g, k * 8 + 2, none⟩ = some (.int .i64 x.place) := by simpa [PE.cells] using hcell 2 (by omega)
   have d3 : w.cell? ⟨g, k * 8 + 3, none⟩ = some (.int .i64 x.inf.need) := by simpa [PE.cells] using hcell 3 (by omega)
   have d4 : w.cell? ⟨g, k * 8 + 4, none⟩ = some (.int .i64 x.inf.net) := by simpa [PE.cells] using hcell 4 (by omega)
   have d5 : w.cell? ⟨g, k * 8 + 5, none⟩ = some (.int .i64 x.inf.high) := by simpa [PE.cells] using hcell 5 (by omega)
   have d6 : w.cell? ⟨g, k * 8 + 6, none⟩ = some (.int .i64 x.inf.steps) := by simpa [PE.cells] using hcell 6 (by omega)
   have d7 : w.cell? ⟨g, k * 8 + 7, none⟩ = some (.bool (!x.inf.str)) := by simpa [PE.cells] using hcell 7 (by omega)
   clear e1 hz hcell hve
   by_cases he : (x.name.toList == s.toList) = true
   ·have HX : Hid (R = some x) := by have := HR.out; rw [lastP, ← hx, if_pos he] at this; exact this
    clear hx
    go_wp2_with fail
    refine bodyPost_ret (v := .tuple #[x.val, .bool true]) (by simp [results, Tryz.results105, go_sem]; rfl) rfl ⟨?_, (Below.refl _ _).alloc (Nat.le_refl _) _⟩
    rw [HX.out]; rfl
   ·have HX : Hid (R = lastP es s k) := by have := HR.out; rw [lastP, ← hx, if_neg he] at this; exact this
    have he' : (x.name.toList == s.toList) = false := by simpa using he
    clear hx he
    go_wp2_with fail
    go_round
    case rel => exact ⟨k, by omega, by go_num, HX⟩
    case measure => simp [intOf]
theorem PSys.chg {S : Nat → Prop} {w w' : World} {bb : Nat} {ev cv : Value} {es : List PE} {nv nt : Int} {code : List Int} (h : PSys w bb ev cv es nv nt code) (hc : Chg S w w') (h1 : ¬ S bb) (h2 : ∀ k, ev.ownBlock = some k → ¬ S k) (h3 : ∀ k, cv.ownBlock = some k → ¬ S k) : PSys w' bb ev cv es nv nt code :=
 ⟨h.blk.chg hc h1, ownsRow_chg h.row hc h2, ownsRow_chg h.cod hc h3, h.up⟩
theorem PSys.below {w w' : World} {bb : Nat} {ev cv : Value} {es : List PE} {nv nt : Int} {code : List Int} (h : PSys w bb ev cv es nv nt code) (hb : Below w.heap.size w w') : PSys w' bb ev cv es nv nt code :=
 h.chg (Chg.ofBelow (S := fun _ => False) hb) id (fun _ _ => id) (fun _ _ => id)
def pe0 : Array Value := #[.string ⟨#[]⟩, .bool false, .int .i64 0, .int .i64 0, .int .i64 0, .int .i64 0, .int .i64 0, .bool false]
theorem Blk.pe0 {w : World} {b : Nat} {t : TypeId} (h : Blk w b pe0 t) : w.cell? ⟨b, 0, none⟩ = some (.string ⟨#[]⟩) ∧ w.cell? ⟨b, 1, none⟩ = some (.bool false) ∧ w.cell? ⟨b, 2, none⟩ = some (.int .i64 0) ∧ w.cell? ⟨b, 3, none⟩ = some (.int .i64 0) ∧ w.cell? ⟨b, 4, none⟩ = some (.int .i64 0) ∧ w.cell? ⟨b, 5, none⟩ = some (.int .i64 0) ∧ w.cell? ⟨b, 6, none⟩ = some (.int .i64 0) ∧ w.cell? ⟨b, 7, none⟩ = some (.bool false) :=
 ⟨h.cell 0 _ rfl, h.cell 1 _ rfl, h.cell 2 _ rfl, h.cell 3 _ rfl, h.cell 4 _ rfl, h.cell 5 _ rfl, h.cell 6 _ rfl, h.cell 7 _ rfl⟩
theorem Blk.free8 {w : World} {b : Nat} {t : TypeId} {cs : Array Value} (h : Blk w b cs t) : w.frozen? ⟨b, 0, none⟩ = false ∧ w.frozen? ⟨b, 1, none⟩ = false ∧ w.frozen? ⟨b, 2, none⟩ = false ∧ w.frozen? ⟨b, 3, none⟩ = false ∧ w.frozen? ⟨b, 4, none⟩ = false ∧ w.frozen? ⟨b, 5, none⟩ = false ∧ w.frozen? ⟨b, 6, none⟩ = false ∧ w.frozen? ⟨b, 7, none⟩ = false :=
 ⟨h.frozen 0, h.frozen 1, h.frozen 2, h.frozen 3, h.frozen 4, h.frozen 5, h.frozen 6, h.frozen 7⟩
theorem Blk.sub {w w' : World} {b : Nat} {cs : Array Value} {t : TypeId} {B : Nat} (h : Blk w b cs t) (hb : Below B w w') (hB : b < B) : Blk w' b cs t := (hb.block b hB).trans h
def wordRes : Option PE → Value
 | some e => .tuple #[e.val, .bool (!e.var)]
 | none => .tuple #[PE.zero.val, .bool false]
theorem book_word {w : World} {bb : Nat} {ev cv : Value} {es : List PE} {nv nt : Int} {code : List Int} (s : ByteArray) (h : PSys w bb ev cv es nv nt code) (hl : es.length ≤ 1000) :
  Calls Tryz.prog 72 #[.pointer (some ⟨bb, 0, none⟩), .string s] w fun e w' => e = .returned (wordRes (lastP es s es.length)) ∧ Below w.heap.size w w' := by
 have HL := hidden (fun w' hb => book_last s (h.below (w' := w') hb) hl)
 obtain ⟨R, hR⟩ : ∃ R, R = lastP es s es.length := ⟨_, rfl⟩
 rw [← hR] at HL ⊢
 clear h hR
 obtain ⟨n, v, p, a1, a2, a3, a4, a5, f, hl1, hl2⟩ : ∃ (n : ByteArray) (v : Bool) (p a1 a2 a3 a4 : Int) (a5 f : Bool), lastRes R = .tuple #[.agg #[.string n, .bool v, .int .i64 p, .int .i64 a1, .int .i64 a2, .int .i64 a3, .int .i64 a4, .bool a5], .bool f] ∧ wordRes R = .tuple #[.agg #[.string n, .bool v, .int .i64 p, .int .i64 a1, .int .i64 a2, .int .i64 a3, .int .i64 a4, .bool a5], .bool (f && !v)] := by
  rcases R with _ | x
  ·exact ⟨_, _, _, _, _, _, _, _, _, rfl, rfl⟩
  ·exact ⟨_, _, _, _, _, _, _, _, _, rfl, rfl⟩
 rw [hl1] at HL
 rw [hl2]
 clear hl1 hl2
 go_enter Tryz.func72, Tryz.ntmps72
 go_wp2_with fail
 have hb0 : Below w.heap.size w (w.alloc (.cells pe0 153 (0, 0))) := (Below.refl _ _).alloc (Nat.le_refl _) _
 have hk0 := blk_new w pe0 153
 refine (HL.out _ hb0).mono ?_
 rintro e w1 ⟨rfl, hb1⟩
 have hk1 := hk0.sub hb1 (by simp)
 have hlt1 := hk1.lt
 have hbw : Below w.heap.size w w1 := hb0.trans (hb1.mono (by simp))
 have HBW := hidden hbw
 have HK1 := hidden hk1
 clear hb0 hk0 hb1 hk1 hbw HL
 cases f
 ·obtain ⟨W, hW⟩ : ∃ W : World, W = w1.alloc (.cells #[.string n, .bool v, .int .i64 p, .int .i64 a1, .int .i64 a2, .int .i64 a3, .int .i64 a4, .bool a5] 153 (0, 0)) := ⟨_, rfl⟩
  obtain ⟨E, hE⟩ : ∃ E, E = w1.heap.size := ⟨_, rfl⟩
  have hkE : Blk W E #[.string n, .bool v, .int .i64 p, .int .i64 a1, .int .i64 a2, .int .i64 a3, .int .i64 a4, .bool a5] 153 := by rw [hW, hE]; exact blk_new w1 _ _
  have hkR : Blk W w.heap.size pe0 153 := by rw [hW]; exact HK1.out.alloc _
  have hbW : Below w.heap.size w W := by rw [hW]; exact HBW.out.alloc HBW.out.size _
  have hne : E ≠ w.heap.size := by omega
  have hne' : w.heap.size ≠ E := by omega
  obtain ⟨g0, g1, g2, g3, g4, g5, g6, g7⟩ := hkR.free8
  obtain ⟨z0, z1, z2, z3, z4, z5, z6, z7⟩ := hkR.pe0
  have e0 := hkE.cell 0 _ rfl; have e1 := hkE.cell 1 _ rfl; have e2 := hkE.cell 2 _ rfl; have e3 := hkE.cell 3 _ rfl
  have e4 := hkE.cell 4 _ rfl; have e5 := hkE.cell 5 _ rfl; have e6 := hkE.cell 6 _ rfl; have e7 := hkE.cell 7 _ rfl
  simp only [List.getElem_toArray, List.getElem_cons_succ, List.getElem_cons_zero] at e0 e1 e2 e3 e4 e5 e6 e7
  have HKR := hidden hkR; have HBWW := hidden hbW
  clear hkE hkR hbW
  go_upto_region 2 with fail
  rw [← hW]
  rw [← hE]
  clear hW hE HBW HK1 hlt1
  go_region
  go_wp2_with fail
  refine bodyPost_ret (v := .tuple #[.agg #[.string n, .bool v, .int .i64 p, .int .i64 a1, .int .i64 a2, .int .i64 a3, .int .i64 a4, .bool a5], .bool (false && !v)]) (by simp [results, Tryz.results72, go_sem, z0, z1, z2, z3, z4, z5, z6, z7]) rfl ⟨rfl, ?_⟩
  exact ((((((((HBWW.out.setCell (Nat.le_refl _) _).setCell (Nat.le_refl _) _).setCell (Nat.le_refl _) _).setCell (Nat.le_refl _) _).setCell (Nat.le_refl _) _).setCell (Nat.le_refl _) _).setCell (Nat.le_refl _) _).setCell (Nat.le_refl _) _).drew
 ·obtain ⟨W, hW⟩ : ∃ W : World, W = w1.alloc (.cells #[.string n, .bool v, .int .i64 p, .int .i64 a1, .int .i64 a2, .int .i64 a3, .int .i64 a4, .bool a5] 153 (0, 0)) := ⟨_, rfl⟩
  obtain ⟨E, hE⟩ : ∃ E, E = w1.heap.size := ⟨_, rfl⟩
  have hkE : Blk W E #[.string n, .bool v, .int .i64 p, .int .i64 a1, .int .i64 a2, .int .i64 a3, .int .i64 a4, .bool a5] 153 := by rw [hW, hE]; exact blk_new w1 _ _
  have hkR : Blk W w.heap.size pe0 153 := by rw [hW]; exact HK1.out.alloc _
  have hbW : Below w.heap.size w W := by rw [hW]; exact HBW.out.alloc HBW.out.size _
  have hne : E ≠ w.heap.size := by omega
  have hne' : w.heap.size ≠ E := by omega
  obtain ⟨g0, g1, g2, g3, g4, g5, g6, g7⟩ := hkR.free8
  obtain ⟨z0, z1, z2, z3, z4, z5, z6, z7⟩ := hkR.pe0
  have e0 := hkE.cell 0 _ rfl; have e1 := hkE.cell 1 _ rfl; have e2 := hkE.cell 2 _ rfl; have e3 := hkE.cell 3 _ rfl
  have e4 := hkE.cell 4 _ rfl; have e5 := hkE.cell 5 _ rfl; have e6 := hkE.cell 6 _ rfl; have e7 := hkE.cell 7 _ rfl
  simp only [List.getElem_toArray, List.getElem_cons_succ, List.getElem_cons_zero] at e0 e1 e2 e3 e4 e5 e6 e7
  have HKR := hidden hkR; have HBWW := hidden hbW
  clear hkE hkR hbW
  go_upto_region 2 with fail
  rw [← hW]
  rw [← hE]
  clear hW hE HBW HK1 hlt1
  go_region_held3 (fun w' => w'.cell? ⟨E, 0, none⟩ = some (.string n) ∧ w'.cell? ⟨E, 1, none⟩ = some (.bool v) ∧ w'.cell? ⟨E, 2, none⟩ = some (.int .i64 p) ∧ w'.cell? ⟨E, 3, none⟩ = some (.int .i64 a1) ∧ w'.cell? ⟨E, 4, none⟩ = some (.int .i64 a2) ∧ w'.cell? ⟨E, 5, none⟩ = some (.int .i64 a3) ∧ w'.cell? ⟨E, 6, none⟩ = some (.int .i64 a4) ∧ w'.cell? ⟨E, 7, none⟩ = some (.bool a5)) (go_keep) (fail)
  go_wp2_with fail
  refine bodyPost_ret (v := .tuple #[.agg #[.string n, .bool v, .int .i64 p, .int .i64 a1, .int .i64 a2, .int .i64 a3, .int .i64 a4, .bool a5], .bool (true && !v)]) (by simp [results, Tryz.results72, go_sem, z0, z1, z2, z3, z4, z5, z6, z7]) rfl ⟨rfl, ?_⟩
  exact ((((((((HBWW.out.setCell (Nat.le_refl _) _).setCell (Nat.le_refl _) _).setCell (Nat.le_refl _) _).setCell (Nat.le_refl _) _).setCell (Nat.le_refl _) _).setCell (Nat.le_refl _) _).setCell (Nat.le_refl _) _).setCell (Nat.le_refl _) _).drew
def findRes : Option PE → Value
 | some e => if e.var = true then .tuple #[.agg zero5, .int .i64 3] else .tuple #[e.inf.val, .int .i64 0]
 | none => .tuple #[.agg zero5, .int .i64 3]
def startRes : Option PE → Value
 | some e => if e.var = true then .tuple #[.int .i64 0, .int .i64 3] else .tuple #[.int .i64 e.place, .int .i64 0]
 | none => .tuple #[.int .i64 0, .int .i64 3]
theorem book_Find {w : World} {bb : Nat} {ev cv : Value} {es : List PE} {nv nt : Int} {code : List Int} (s : ByteArray) (h : PSys w bb ev cv es nv nt code) (hl : es.length ≤ 1000) :
  Calls Tryz.prog 42 #[.pointer (some ⟨bb, 0, none⟩), .string s] w fun e w' => e = .returned (findRes (lastP es s es.length)) ∧ Below w.heap.size w w' := by
 have HL := hidden (fun w' hb => book_word s (h.below (w' := w') hb) hl)
 obtain ⟨R, hR⟩ : ∃ R, R = lastP es s es.length := ⟨_, rfl⟩
 rw [← hR] at HL ⊢
 clear h hR
 obtain ⟨n, v, p, a1, a2, a3, a4, a5, f, hl1, hl2⟩ : ∃ (n : ByteArray) (v : Bool) (p a1 a2 a3 a4 : Int) (a5 f : Bool), wordRes R = .tuple #[.agg #[.string n, .bool v, .int .i64 p, .int .i64 a1, .int .i64 a2, .int .i64 a3, .int .i64 a4, .bool a5], .bool f] ∧ findRes R = .tuple #[.agg (if f = true then #[.int .i64 a1, .int .i64 a2, .int .i64 a3, .int .i64 a4, .bool (!a5)] else zero5), .int .i64 (if f = true then 0 else 3)] := by
  rcases R with _ | ⟨n, v, p, i⟩
  ·exact ⟨_, _, _, _, _, _, _, _, _, rfl, rfl⟩
  ·cases v
   ·exact ⟨_, _, _, _, _, _, _, _, _, rfl, by simp [findRes, Inf.val]⟩
   ·exact ⟨_, _, _, _, _, _, _, _, _, rfl, by simp [findRes]⟩
 rw [hl1] at HL
 rw [hl2]
 clear hl1 hl2
 go_enter Tryz.func42, Tryz.ntmps42
 go_wp2_with fail
 have hb0 : Below w.heap.size w (w.alloc (.cells zero5 36 (0, 0))) := (Below.refl _ _).alloc (Nat.le_refl _) _
 have hk0 := blk_new w zero5 36
 refine (HL.out _ hb0).mono ?_
 rintro e w1 ⟨rfl, hb1⟩
 have hk1 := hk0.sub hb1 (by simp)
 have hlt1 := hk1.lt
 have hbw : Below w.heap.size w w1 := hb0.trans (hb1.mono (by simp))
 have HBW := hidden hbw
 have HK1 := hidden hk1
 clear hb0 hk0 hb1 hk1 hbw HL
 obtain ⟨g0, g1, g2, g3, g4⟩ := HK1.out.free
 obtain ⟨z0, z1, z2, z3, z4⟩ := HK1.out.zero
 cases f
 ·go_wp2_with fail
  refine bodyPost_ret (v := .tuple #[.agg zero5, .int .i64 3]) (by simp [results, Tryz.results42, go_sem, z0, z1, z2, z3, z4, zero5, hlt1]) rfl ⟨rfl, ?_⟩
  exact (((((HBW.out.setCell (Nat.le_refl _) _).setCell (Nat.le_refl _) _).setCell (Nat.le_refl _) _).setCell (Nat.le_refl _) _).setCell (Nat.le_refl _) _).alloc (by have := HBW.out.size; simpa [World.setCell] using this) _
 ·go_wp2_with fail
  refine bodyPost_ret (v := .tuple #[.agg #[.int .i64 a1, .int .i64 a2, .int .i64 a3, .int .i64 a4, .bool (!a5)], .int .i64 0]) (by simp [results, Tryz.results42, go_sem, z0, z1, z2, z3, z4, hlt1]) rfl ⟨rfl, ?_⟩
  exact (((((HBW.out.setCell (Nat.le_refl _) _).setCell (Nat.le_refl _) _).setCell (Nat.le_refl _) _).setCell (Nat.le_refl _) _).setCell (Nat.le_refl _) _).alloc (by have := HBW.out.size; simpa [World.setCell] using this) _
theorem book_Start {w : World} {bb : Nat} {ev cv : Value} {es : List PE} {nv nt : Int} {code : List Int} (s : ByteArray) (h : PSys w bb ev cv es nv nt code) (hl : es.length ≤ 1000) :
  Calls Tryz.prog 43 #[.pointer (some ⟨bb, 0, none⟩), .string s] w fun e w' => e = .returned (startRes (lastP es s es.length)) ∧ Below w.heap.size w w' := by
 have HL := hidden (fun w' hb => book_word s (h.below (w' := w') hb) hl)
 obtain ⟨R, hR⟩ : ∃ R, R = lastP es s es.length := ⟨_, rfl⟩
 rw [← hR] at HL ⊢
 clear h hR
 obtain ⟨n, v, p, a1, a2, a3, a4, a5, f, hl1, hl2⟩ : ∃ (n : ByteArray) (v : Bool) (p a1 a2 a3 a4 : Int) (a5 f : Bool), wordRes R = .tuple #[.agg #[.string n, .bool v, .int .i64 p, .int .i64 a1, .int .i64 a2, .int .i64 a3, .int .i64 a4, .bool a5], .bool f] ∧ startRes R = .tuple #[.int .i64 (if f = true then p else 0), .int .i64 (if f = true then 0 else 3)] := by
  rcases R with _ | ⟨n, v, p, i⟩
  ·exact ⟨_, _, _, _, _, _, _, _, _, rfl, rfl⟩
  ·cases v
   ·exact ⟨_, _, _, _, _, _, _, _, _, rfl, by simp [startRes]⟩
   ·exact ⟨_, _, _, _, _, _, _, _, _, rfl, by simp [startRes]⟩
 rw [hl1] at HL
 rw [hl2]
 clear hl1 hl2
 go_enter Tryz.func43, Tryz.ntmps43
 go_wp2_with fail
 refine (HL.out _ (Below.refl _ _)).mono ?_
 rintro e w1 ⟨rfl, hb1⟩
 have HB := hidden hb1
 clear hb1 HL
 cases f
 ·go_wp2_with fail
  refine bodyPost_ret (v := .tuple #[.int .i64 0, .int .i64 3]) (by simp [results, Tryz.results43, go_sem]) rfl ⟨rfl, ?_⟩
  exact HB.out.alloc HB.out.size _
 ·go_wp2_with fail
  refine bodyPost_ret (v := .tuple #[.int .i64 p, .int .i64 0]) (by simp [results, Tryz.results43, go_sem]) rfl ⟨rfl, ?_⟩
  exact HB.out.alloc HB.out.size _
theorem book_Variables {w : World} {bb : Nat} {ev cv : Value} {es : List PE} {nv nt : Int} {code : List Int} (h : PSys w bb ev cv es nv nt code) :
  Calls Tryz.prog 46 #[.pointer (some ⟨bb, 0, none⟩)] w fun e w' => e = .returned (.int .i64 nv) ∧ w' = w := by
 have c1 : w.cell? ⟨bb, 1, none⟩ = some (.int .i64 nv) := h.blk.cell 1 _ rfl
 clear h
 go_enter Tryz.func46, Tryz.ntmps46
 go_wp2
 go_ret
 exact ⟨rfl, rfl⟩
theorem book_Code {w : World} {bb : Nat} {ev cv : Value} {es : List PE} {nv nt : Int} {code : List Int} (h : PSys w bb ev cv es nv nt code) :
  Calls Tryz.prog 48 #[.pointer (some ⟨bb, 0, none⟩)] w fun e w' => e = .returned cv ∧ w' = w := by
 have c3 : w.cell? ⟨bb, 3, none⟩ = some cv := h.blk.cell 3 _ rfl
 obtain ⟨ad, cap, rfl, _⟩ := row_shape h.cod
 clear h
 go_enter Tryz.func48, Tryz.ntmps48
 go_wp2
 go_ret
 exact ⟨rfl, rfl⟩
theorem opInf28 : opInf 28 = ⟨0, 1, 1, 1, true⟩ := rfl
theorem opInf33 : opInf 33 = ⟨0, 0, 0, 1, true⟩ := rfl
theorem entry_use (e : PE) (w : World) (ht : Tab w) (he : e.inf.Ok) :
  Calls Tryz.prog 191 #[e.val] w fun r w' => r = .returned (.tuple #[.int .i64 (if e.var then 28 else 33), (if e.var then opInf 28 else (opInf 33).then e.inf).tm]) ∧ Below w.heap.size w w' := by
 obtain ⟨n, v, p, i⟩ := e
 have h33 : (opInf 33).Ok := by rw [opInf33]; constructor <;> decide
 have H28 := hidden (fun w' (hb : Below w.heap.size w w') => code_effect 28 w' (by omega) (ht.below hb))
 have H33 := hidden (fun w' (hb : Below w.heap.size w w') => code_effect 33 w' (by omega) (ht.below hb))
 have HT := hidden (fun w' => eff_then (opInf 33) i h33 he w')
 clear ht he h33
 rw [opInf28] at H28 ⊢
 rw [opInf33] at H33 HT ⊢
 unfold PE.val
 cases v
 ·simp only [Bool.false_eq_true, if_false]
  simp only [Inf.tm] at H33 HT ⊢
  obtain ⟨j, hj⟩ : ∃ j, j = Inf.then ⟨0, 0, 0, 1, true⟩ i := ⟨_, rfl⟩
  rw [← hj] at HT ⊢
  clear hj
  go_enter Tryz.func191, Tryz.ntmps191
  go_wp2_with fail
  have hc := fun (B : Nat) (w0 : World) (u : Und B w0) (b o : Nat) (h : b < B) => u.cell b o h
  have hne := Und.ne
  refine wp_region_und_tail (w.heap.size + 1 + 1) 4 (by kernel_rfl) (by kernel_rfl) ?_
  simp only [List.take_succ_cons, List.take_zero, List.drop_succ_cons, List.drop_zero]
  repeat (go_big_quiet_step ((first | (go_at_call 137; exact Und.calls (Nat.le_of_eq (by simp)) _ (H33.out _ (below2 (Und.below _)))) | (go_at_call 203; exact Und.calls (Nat.le_of_eq (by simp)) _ (HT.out _)))))
  refine wpQuiet_nil ?_
  intro u
  obtain ⟨w1, hb⟩ := u
  have hz := fun o => hb.cell (p := ⟨w.heap.size + 1, o, none⟩) (by simp)
  have hf := fun o => hb.frozen (p := ⟨w.heap.size + 1, o, none⟩) (by simp)
  have c0 := hz 0; have c1 := hz 1; have c2 := hz 2; have c3 := hz 3; have c4 := hz 4
  have f0 := hf 0; have f1 := hf 1; have f2 := hf 2; have f3 := hf 3; have f4 := hf 4
  clear hz hf hc hne
  simp [go_sem] at c0 c1 c2 c3 c4 f0 f1 f2 f3 f4
  go_wp2
  refine bodyPost_ret (v := .tuple #[.int .i64 33, .agg #[.int .i64 j.need, .int .i64 j.net, .int .i64 j.high, .int .i64 j.steps, .bool (!j.str)]]) (by simp [results, Tryz.results191, go_sem, c0, c1, c2, c3, c4]) rfl ⟨rfl, ?_⟩
  exact ((((((below2 hb).setCell (Nat.le_succ _) _).setCell (Nat.le_succ _) _).setCell (Nat.le_succ _) _).setCell (Nat.le_succ _) _).setCell (Nat.le_succ _) _)
 ·simp only [if_true]
  simp only [Inf.tm] at H28 ⊢
  go_enter Tryz.func191, Tryz.ntmps191
  go_wp2_with fail
  refine (H28.out _ (((Below.refl _ _).alloc (Nat.le_refl _) _).alloc (by simp) _)).mono ?_
  rintro e w1 ⟨rfl, hb⟩
  have hz := fun o => hb.cell (p := ⟨w.heap.size + 1, o, none⟩) (by simp)
  have hf := fun o => hb.frozen (p := ⟨w.heap.size + 1, o, none⟩) (by simp)
  have c0 := hz 0; have c1 := hz 1; have c2 := hz 2; have c3 := hz 3; have c4 := hz 4
  have f0 := hf 0; have f1 := hf 1; have f2 := hf 2; have f3 := hf 3; have f4 := hf 4
  have HB := hidden (Below.trans (((Below.refl _ _).alloc (Nat.le_refl _) _).alloc (by simp) _) (hb.mono (by simp; omega)))
  clear hz hf hb
  simp [go_sem] at c0 c1 c2 c3 c4 f0 f1 f2 f3 f4
  go_wp2
  refine bodyPost_ret (v := .tuple #[.int .i64 28, .agg #[.int .i64 0, .int .i64 1, .int .i64 1, .int .i64 1, .bool (!true)]]) (by simp [results, Tryz.results191, go_sem, c0, c1, c2, c3, c4]) rfl ⟨rfl, ?_⟩
  exact (((((HB.out.setCell (Nat.le_succ _) _).setCell (Nat.le_succ _) _).setCell (Nat.le_succ _) _).setCell (Nat.le_succ _) _).setCell (Nat.le_succ _) _)
structure PB where
 opener : Int
 inDo : Bool
 hole : Int
 times : Int
 does : Inf
 other : Inf
 numbers : Int
 a0 : Int
 a1 : Int
def PB.cells (b : PB) : List Value := [.int .i64 b.opener, .bool b.inDo, .int .i64 b.hole, .int .i64 b.times, .int .i64 b.does.need, .int .i64 b.does.net, .int .i64 b.does.high, .int .i64 b.does.steps, .bool (!b.does.str), .int .i64 b.other.need, .int .i64 b.other.net, .int .i64 b.other.high, .int .i64 b.other.steps, .bool (!b.other.str), .int .i64 b.numbers, .int .i64 b.a0, .int .i64 b.a1]
def codeC (l : List Int) : List Value := l.map (Value.int .i64)
def defC (bb : Nat) (tk : Int) (cv bv : Value) (k : Inf) : Array Value := #[.pointer (some ⟨bb, 0, none⟩), .int .i64 tk, cv, bv, .int .i64 k.need, .int .i64 k.net, .int .i64 k.high, .int .i64 k.steps, .bool (!k.str)]
abbrev RC := Array Value × Nat × Array Value
def Rdg (w : World) (rb : Nat) (rc : RC) : Prop := Blk w rb rc.1 199 ∧ Blk w rc.2.1 rc.2.2 163
structure DS (w0 w : World) (rb : Nat) (rc : RC) (bb db : Nat) (ev bcv dcv bv : Value) (es : List PE) (nv nt : Int) (pc dc : List Int) (tk : Int) (bs : List PB) (kn : Inf) : Prop where
 sys : PSys w bb ev bcv es nv nt pc
 blk : Blk w db (defC bb tk dcv bv kn) 209
 cod : w.ownsRow 3 3 1 dcv dc.length (codeC dc)
 row : w.ownsRow w0.heap.size 244 17 bv bs.length (bs.flatMap PB.cells)
 tab : Tab w
 rdr : Rdg w rb rc
 ru : 3 ≤ rb
 tl : 3 ≤ w0.heap.size
 pre : ∃ l, dc = pc ++ l
 new : w0.heap.size ≤ db
 loc : dcv.ownBlock = bcv.ownBlock ∨ ∃ k, dcv.ownBlock = some k ∧ w0.heap.size ≤ k
 frm : Chg (fun b => b = rb ∨ bcv.ownBlock = some b) w0 w
theorem blk_type {w : World} {b : Nat} {cs cs' : Array Value} {t t' : TypeId} (h : Blk w b cs t) (h' : Blk w b cs' t') : t = t' := by
 unfold Blk at h h'; rw [h] at h'; simp at h'; exact h'.2
theorem blk_ne {w : World} {b b' : Nat} {cs cs' : Array Value} {t t' : TypeId} (h : Blk w b cs t) (h' : Blk w b' cs' t') (hne : t ≠ t') : b ≠ b' := by
 rintro rfl; exact hne (blk_type h h')
theorem own_blk {w : World} {base : Nat} {e t : TypeId} {size n b : Nat} {v : Value} {xs : List Value} {cs : Array Value} (h : w.ownsRow base e size v n xs) (hb : Blk w b cs t) (hne : t ≠ e) : v.ownBlock ≠ some b := by
 intro hv
 rcases h.2 with ⟨rfl, _⟩ | ⟨g, cap, cur, rfl, _, hg, _⟩
 ·cases hv
 ·obtain rfl : g = b := by simpa [Value.ownBlock] using hv
  exact hne (blk_type hb hg)
theorem own_own {w : World} {base base' : Nat} {e e' : TypeId} {size size' n n' : Nat} {v v' : Value} {xs xs' : List Value} (h : w.ownsRow base e size v n xs) (h' : w.ownsRow base' e' size' v' n' xs') (hne : e ≠ e') {k : Nat} (hk : v.ownBlock = some k) : v'.ownBlock ≠ some k := by
 rcases h.2 with ⟨rfl, _⟩ | ⟨g, cap, cur, rfl, _, hg, _⟩
 ·cases hk
 ·obtain rfl : g = k := by simpa [Value.ownBlock] using hk
  exact own_blk h' (show Blk w g cur e from hg) hne
theorem DS.chg {w0 w w' : World} {rb bb db : Nat} {rc : RC} {ev bcv dcv bv : Value} {es : List PE} {nv nt : Int} {pc dc : List Int} {tk : Int} {bs : List PB} {kn : Inf}
  (h : DS w0 w rb rc bb db ev bcv dcv bv es nv nt pc dc tk bs kn) (hc : Chg (fun b => b = rb) w w') {rc1 : Array Value} (hr : Blk w' rb rc1 199) : DS w0 w' rb (rc1, rc.2) bb db ev bcv dcv bv es nv nt pc dc tk bs kn := by
 have hrb := h.rdr.1
 have hgb := h.rdr.2
 have n1 : bb ≠ rb := by rintro rfl; exact absurd (blk_type h.sys.blk hrb) (by decide)
 have n2 : db ≠ rb := by rintro rfl; exact absurd (blk_type h.blk hrb) (by decide)
 have no : ∀ {base : Nat} {e : TypeId} {size n : Nat} {v : Value} {xs : List Value}, w.ownsRow base e size v n xs → 199 ≠ e → ∀ k, v.ownBlock = some k → ¬ k = rb := fun ho hne k hk e => own_blk ho hrb hne (by rw [hk, e])
 refine ⟨h.sys.chg hc n1 (no h.sys.row (by decide)) (no h.sys.cod (by decide)), h.blk.chg hc n2, ownsRow_chg h.cod hc (no h.cod (by decide)), ownsRow_chg h.row hc (no h.row (by decide)), h.tab.chg hc (fun k e => by have := h.ru; omega), ⟨hr, hgb.chg hc (blk_ne hgb hrb (by decide))⟩, h.ru, h.tl, h.pre, h.new, h.loc, h.frm.trans (hc.mono (fun k _ e => Or.inl e))⟩
theorem DS.guest {w0 w : World} {rb bb db : Nat} {rc : RC} {ev bcv dcv bv : Value} {es : List PE} {nv nt : Int} {pc dc : List Int} {tk : Int} {bs : List PB} {kn : Inf}
  (h : DS w0 w rb rc bb db ev bcv dcv bv es nv nt pc dc tk bs kn) (xb : Nat) (xc : Array Value) (hx : Blk w xb xc 163) : DS w0 w rb (rc.1, xb, xc) bb db ev bcv dcv bv es nv nt pc dc tk bs kn :=
 { h with rdr := ⟨h.rdr.1, hx⟩ }
theorem DS.below {w0 w w' : World} {rb bb db : Nat} {rc : RC} {ev bcv dcv bv : Value} {es : List PE} {nv nt : Int} {pc dc : List Int} {tk : Int} {bs : List PB} {kn : Inf}
  (h : DS w0 w rb rc bb db ev bcv dcv bv es nv nt pc dc tk bs kn) (hb : Below w.heap.size w w') : DS w0 w' rb rc bb db ev bcv dcv bv es nv nt pc dc tk bs kn :=
 h.chg (Chg.ofBelow hb) ((hb.block rb h.rdr.1.lt).trans h.rdr.1)
theorem DS.def {w0 w : World} {rb bb db : Nat} {rc : RC} {ev bcv dcv bv : Value} {es : List PE} {nv nt : Int} {pc dc : List Int} {tk : Int} {bs : List PB} {kn : Inf}
  (h : DS w0 w rb rc bb db ev bcv dcv bv es nv nt pc dc tk bs kn) : w.cell? ⟨db, 0, none⟩ = some (.pointer (some ⟨bb, 0, none⟩)) ∧ w.cell? ⟨db, 1, none⟩ = some (.int .i64 tk) ∧ w.cell? ⟨db, 2, none⟩ = some dcv ∧ w.cell? ⟨db, 3, none⟩ = some bv :=
 ⟨h.blk.cell 0 _ rfl, h.blk.cell 1 _ rfl, h.blk.cell 2 _ rfl, h.blk.cell 3 _ rfl⟩
theorem DS.last {w0 w : World} {rb bb db : Nat} {rc : RC} {ev bcv dcv bv : Value} {es : List PE} {nv nt : Int} {pc dc : List Int} {tk : Int} {bs : List PB} {b : PB} {kn : Inf}
  (h : DS w0 w rb rc bb db ev bcv dcv bv es nv nt pc dc tk (bs ++ [b]) kn) : ∃ g cap, bv = .slice (some ⟨g, 0, none⟩) (bs.length + 1) cap ∧ bs.length + 1 ≤ cap ∧ w0.heap.size ≤ g ∧ g < w.heap.size ∧ (∀ o, w.frozen? ⟨g, o, none⟩ = false) ∧ ∀ j u, b.cells[j]? = some u → w.cell? ⟨g, bs.length * 17 + j, none⟩ = some u := by
 have hr := h.row
 rw [List.length_append, List.length_singleton] at hr
 obtain ⟨g, cap, hv, hb, hg, h1, _, hc⟩ := row_cells hr (by omega)
 refine ⟨g, cap, hv, h1, hb, hg, fun o => ?_, fun j u hu => hc _ _ ?_⟩
 ·rcases hr.2 with ⟨_, h0⟩ | ⟨g', cap', cur, hv', _, hh, _⟩
  ·omega
  ·obtain ⟨rfl, rfl⟩ : g = g' ∧ cap = cap' := by rw [hv] at hv'; simpa using hv'
   simp [World.frozen?, hh]
 ·have hl := flat_length PB.cells 17 (fun _ => rfl) bs
  rw [List.flatMap_append, List.getElem?_append_right (by omega), hl, Nat.add_sub_cancel_left]
  simpa using hu
theorem def_inner {w0 w : World} {rb bb db : Nat} {rc : RC} {ev bcv dcv bv : Value} {es : List PE} {nv nt : Int} {pc dc : List Int} {tk : Int} {bs : List PB} {b : PB} {kn : Inf}
  (h : DS w0 w rb rc bb db ev bcv dcv bv es nv nt pc dc tk (bs ++ [b]) kn) (hl : bs.length ≤ 1000000000) (g cap : Nat) (hg : bv = .slice (some ⟨g, 0, none⟩) (bs.length + 1) cap) (hcap : bs.length + 1 ≤ cap) :
  Calls Tryz.prog 180 #[.pointer (some ⟨db, 0, none⟩)] w fun e w' => e = .returned (.pointer (some ⟨g, bs.length * 17, none⟩)) ∧ Below w.heap.size w w' := by
 obtain ⟨c0, c1, c2, c3⟩ := h.def
 rw [hg] at c3
 clear h hg c0 c1 c2
 generalize bs.length = m at *
 have h1 : (m : Int) < (m : Int) + 1 := by omega
 have h2 : (0 : Int) ≤ (m : Int) := by omega
 have h3 : (m : Int) ≤ 1000000000 := by omega
 clear hl
 go_enter Tryz.func180, Tryz.ntmps180
 go_wp2
 go_quiet (fail)
 go_wp2
 go_ret
 exact ⟨rfl, ⟨rfl, rfl, rfl, Nat.le_refl _, fun _ _ => rfl⟩⟩
structure CU (w w1 : World) (dcv v1 bcv : Value) (pc dc : List Int) : Prop where
 row : w1.ownsRow 3 3 1 v1 dc.length (codeC dc)
 sys : w1.ownsRow 3 3 1 bcv pc.length (codeC pc)
 len : pc.length ≤ dc.length
 chg : Chg (fun b => dcv.ownBlock = some b) w w1
 loc : v1.ownBlock = dcv.ownBlock ∨ ∃ k, v1.ownBlock = some k ∧ w.heap.size ≤ k
theorem CU.alloc {w w1 : World} {dcv v1 bcv : Value} {pc dc : List Int} (h : CU w w1 dcv v1 bcv pc dc) (o : Obj) : CU w (w1.alloc o) dcv v1 bcv pc dc :=
 ⟨ownsRow_chg h.row ((Chg.refl (fun _ => False) w1).alloc o) (fun _ _ => id), ownsRow_chg h.sys ((Chg.refl (fun _ => False) w1).alloc o) (fun _ _ => id), h.len, h.chg.alloc o, h.loc⟩
theorem CU.more {w w1 w2 : World} {dcv v1 v2 bcv : Value} {pc dc l : List Int} (h : CU w w1 dcv v1 bcv pc dc)
  (h2 : w2.ownsRow 3 3 1 v2 (dc.length + l.length) (codeC dc ++ codeC l)) (hg : w1.grownBy w2 v1.ownBlock) (hat : v2.ownBlock = v1.ownBlock ∨ v2.ownBlock = some w1.heap.size) (hk : Keeps w1 w2 3 1 dc.length v1) :
  CU w w2 dcv v2 bcv pc (dc ++ l) := by
 refine ⟨by simpa [codeC] using h2, ownsRow_keep h.row h.sys hg hk (fun _ _ => ⟨rfl, rfl, h.len⟩), by have := h.len; simp; omega, ?_, ?_⟩
 ·refine ⟨hg.os.trans h.chg.os, hg.tape.trans h.chg.tape, hg.output.trans h.chg.output, Nat.le_trans h.chg.size hg.size, fun k hk1 hn => ?_⟩
  refine (hg.block k (Nat.lt_of_lt_of_le hk1 h.chg.size) (fun e => ?_)).trans (h.chg.block k hk1 hn)
  rcases h.loc with h1 | ⟨k', h1, h3⟩
  ·exact hn (by rw [← h1, ← e])
  ·rw [h1] at e; simp at e; omega
 ·rcases hat with h1 | h1
  ·rw [h1]; exact h.loc
  ·exact Or.inr ⟨_, h1, h.chg.size⟩
theorem Chg.thru {S T : Nat → Prop} {w0 w w' : World} (h : Chg S w0 w) (h2 : Chg T w w') (ht : ∀ k, k < w0.heap.size → T k → S k) : Chg S w0 w' :=
 ⟨h2.os.trans h.os, h2.tape.trans h.tape, h2.output.trans h.output, Nat.le_trans h.size h2.size, fun k hk hn => (h2.block k (Nat.lt_of_lt_of_le hk h.size) (fun e => hn (ht k hk e))).trans (h.block k hk hn)⟩
theorem DS.cu {w0 w : World} {rb bb db : Nat} {rc : RC} {ev bcv dcv bv : Value} {es : List PE} {nv nt : Int} {pc dc : List Int} {tk : Int} {bs : List PB} {kn : Inf}
  (h : DS w0 w rb rc bb db ev bcv dcv bv es nv nt pc dc tk bs kn) : CU w w dcv dcv bcv pc dc :=
 ⟨h.cod, h.sys.cod, by obtain ⟨l, rfl⟩ := h.pre; simp, Chg.refl _ _, Or.inl rfl⟩
theorem DS.emit {w0 w w2 : World} {rb bb db : Nat} {rc : RC} {ev bcv dcv v2 bv : Value} {es : List PE} {nv nt : Int} {pc dc l : List Int} {tk : Int} {bs : List PB} {kn : Inf}
  (h : DS w0 w rb rc bb db ev bcv dcv bv es nv nt pc dc tk bs kn) (hc : CU w w2 dcv v2 bcv pc (dc ++ l)) : DS w0 (w2.setCell ⟨db, 2, none⟩ v2) rb rc bb db ev bcv v2 bv es nv nt pc (dc ++ l) tk bs kn := by
 have hrb := h.rdr.1
 have hgb := h.rdr.2
 have nb : dcv.ownBlock ≠ some bb := own_blk h.cod h.sys.blk (by decide)
 have nd : dcv.ownBlock ≠ some db := own_blk h.cod h.blk (by decide)
 have nr : dcv.ownBlock ≠ some rb := own_blk h.cod hrb (by decide)
 have n1 : db ≠ bb := by rintro rfl; exact absurd (blk_type h.blk h.sys.blk) (by decide)
 have n2 : db ≠ rb := by rintro rfl; exact absurd (blk_type h.blk hrb) (by decide)
 have hb2 : Blk w2 db (defC bb tk dcv bv kn) 209 := h.blk.chg hc.chg nd
 have oth : ∀ {base : Nat} {e : TypeId} {size n : Nat} {v : Value} {xs : List Value}, w2.ownsRow base e size v n xs → 209 ≠ e → (w2.setCell ⟨db, 2, none⟩ v2).ownsRow base e size v n xs := fun ho hne =>
  ownsRow_chg ho ((Chg.refl (fun b => b = db) w2).setCell (p := ⟨db, 2, none⟩) rfl _) (fun k hk e => own_blk ho hb2 hne (by rw [hk, e]))
 refine ⟨⟨(h.sys.blk.chg hc.chg nb).setOther n1 _, oth (ownsRow_chg h.sys.row hc.chg (fun k hk e => own_own h.sys.row h.cod (by decide) hk e)) (by decide), oth hc.sys (by decide), h.sys.up⟩, ?_, oth hc.row (by decide),
  oth (ownsRow_chg h.row hc.chg (fun k hk e => own_own h.row h.cod (by decide) hk e)) (by decide), ?_, ⟨(hrb.chg hc.chg nr).setOther n2 _, (hgb.chg hc.chg (own_blk h.cod hgb (by decide))).setOther (blk_ne h.blk hgb (by decide)) _⟩, h.ru, h.tl, ?_, h.new, ?_, ?_⟩
 ·have := hb2.set (o := 2) v2; simpa [defC] using this
 ·refine (h.tab.chg hc.chg ?_).chg ((Chg.refl (fun b => b = db) w2).setCell (p := ⟨db, 2, none⟩) rfl _) (fun k e => by have := h.new; have := h.tl; omega)
  intro k e
  rcases h.cod.2 with ⟨rfl, _⟩ | ⟨g, cap, cur, rfl, hg, _⟩
  ·cases e
  ·simp [Value.ownBlock] at e; omega
 ·obtain ⟨l0, rfl⟩ := h.pre; exact ⟨l0 ++ l, by simp⟩
 ·rcases hc.loc with h1 | ⟨k, h1, h2⟩
  ·rw [h1]; exact h.loc
  ·exact Or.inr ⟨k, h1, Nat.le_trans h.frm.size h2⟩
 ·refine (h.frm.thru hc.chg ?_).thru ((Chg.refl (fun b => b = db) w2).setCell (p := ⟨db, 2, none⟩) rfl _) (fun k hk e => by have := h.new; omega)
  intro k hk e
  rcases h.loc with h1 | ⟨k', h1, h2⟩
  ·exact Or.inr (by rw [← h1, e])
  ·rw [h1] at e; simp at e; omega
theorem news1 (w : World) (a : Value) (t : TypeId) : ∀ j u, [a][j]? = some u → (w.alloc (.cells #[a] t)).cell? ((⟨w.heap.size, 0, none⟩ : Addr).add j) = some u := by
 intro k u hu
 match k, hu with
 | 0, hu => simp at hu; subst hu; simp [Addr.add]
theorem one1 (k : IntKind) (b : Int) : ∀ u ∈ [Value.int k b], u.oneCell' = true := by
 intro u hu; simp at hu; subst hu; rfl
theorem Tryz.infoInt : (Tryz.prog.info? 3).map (fun i => (i.zero, i.size, i.bytes)) = some (some (.int .i64 0), 1, 8) := by kernel_rfl
def Src1 (w : World) (dcv sv : Value) (l : List Int) : Prop :=
 (sv = .slice none 0 0 ∧ l = []) ∨ ∃ vb x, sv = .slice (some ⟨vb, 0, none⟩) 1 1 ∧ l = [x] ∧ w.cell? ⟨vb, 0, none⟩ = some (.int .i64 x) ∧ vb < w.heap.size ∧ dcv.ownBlock ≠ some vb
theorem def_emit {w0 w : World} {rb bb db : Nat} {rc : RC} {ev bcv dcv bv : Value} {es : List PE} {nv nt : Int} {pc dc : List Int} {tk : Int} {bs : List PB} {kn : Inf}
  (h : DS w0 w rb rc bb db ev bcv dcv bv es nv nt pc dc tk bs kn) (op : Int) (sv : Value) (l : List Int) (hs : Src1 w dcv sv l) (hl : dc.length ≤ 100000000) :
  Calls Tryz.prog 181 #[.pointer (some ⟨db, 0, none⟩), .int .i64 op, sv] w fun e w' => e = .returned (.tuple #[]) ∧ (∃ v2, DS w0 w' rb rc bb db ev bcv v2 bv es nv nt pc (dc ++ op :: l) tk bs kn) ∧ Chg (fun b => b = db ∨ dcv.ownBlock = some b) w w' := by
 obtain ⟨c0, c1, c2, c3⟩ := h.def
 have f2 := h.blk.frozen 2
 have hdl := h.blk.lt
 have hcu := hidden (h.cu.alloc (.cells #[.int .i64 op] 3 (0, 0)))
 have nd : dcv.ownBlock ≠ some db := own_blk h.cod h.blk (by decide)
 obtain ⟨ad, cap, hdv, hcap, _⟩ := row_shape h.cod
 obtain ⟨i0, hi, hz0, hz1, hz2⟩ := info_parts Tryz.infoInt
 have hba : 3 ≤ (w.alloc (.cells #[.int .i64 op] 3 (0, 0))).heap.size := by have := h.tab.lt; simp; omega
 have HBA := hidden hba
 have HD := hidden h
 have HN := hidden nd
 have HS := hidden hs
 clear h c0 c1 c3 nd hs hba
 subst hdv
 go_enter Tryz.func181, Tryz.ntmps181
 go_wp2_with (at_builtin; refine wpList_append_keep _ rfl _ _ 24 rfl 3 3 i0 (.int .i64 0) 1 8 Tryz.underlying24 hi hz0 hz1 hz2 rfl (by decide) _ _ _ rfl hcu.out.row ⟨w.heap.size, 0, none⟩ 1 1 [.int .i64 op] rfl rfl (news1 _ _ _) (one1 _ _) (by unfold maxLen; omega) (by omega) HBA.out ?_)
 intro v1 w1 h2 hg hat hk
 have cu1 := hcu.out.more (l := [op]) (by simpa [codeC] using h2) hg (by simpa using hat) hk
 have hlen1 : (dc ++ [op]).length = dc.length + 1 := by simp
 have hrow1 := cu1.row
 rw [hlen1] at hrow1
 obtain ⟨g1, cap1, hv1, _, hg1, hc1, hm1, _⟩ := row_cells hrow1 (by omega)
 have hd1 : Blk w1 db (defC bb tk (.slice ad dc.length cap) bv kn) 209 := HD.out.blk.chg cu1.chg HN.out
 have HD1 := hidden hd1
 have e2 : w1.cell? ⟨db, 2, none⟩ = some (.slice ad dc.length cap) := hd1.cell 2 _ rfl
 have q2 := hd1.frozen 2
 have HCU := hidden cu1
 have hsz1 : w.heap.size ≤ w1.heap.size := cu1.chg.size
 have hba1 : 3 ≤ w1.heap.size := Nat.le_trans HD.out.tab.lt hsz1
 have HBA1 := hidden hba1
 have HR1 := hidden hrow1
 subst hv1
 clear h2 hg hat hk cu1 hrow1 hd1 hcu HBA c2 f2 hba1
 rcases HS.out with ⟨rfl, rfl⟩ | ⟨vb, x, rfl, rfl, hvb, hvl, hvn⟩
 ·clear HS
  go_wp2_with (at_builtin; refine wpList_append_none _ rfl _ _ 24 rfl 3 i0 Tryz.underlying24 hi ⟨g1, 0, none⟩ (dc.length + 1) cap1 rfl hc1 rfl ?_)
  go_wp2_with fail
  go_end0
  refine ⟨rfl, ⟨_, HD.out.emit (l := [op]) HCU.out⟩, ?_⟩
  exact (HCU.out.chg.mono (fun k _ e => Or.inr e)).trans ((Chg.refl (fun b => b = db ∨ (Value.slice ad dc.length cap).ownBlock = some b) w1).setCell (p := ⟨db, 2, none⟩) (Or.inl rfl) _)
 ·have hvb1 : w1.cell? ⟨vb, 0, none⟩ = some (.int .i64 x) := (HCU.out.chg.cell (p := ⟨vb, 0, none⟩) hvl hvn).trans hvb
  have hnew : ∀ j u, [Value.int .i64 x][j]? = some u → w1.cell? ((⟨vb, 0, none⟩ : Addr).add j) = some u := by
   intro k u hu
   match k, hu with
   | 0, hu => simp at hu; subst hu; simpa [Addr.add] using hvb1
  have HNW := hidden hnew
  clear HS hvb1 hnew hvb
  go_wp2_with (at_builtin; refine wpList_append_keep _ rfl _ _ 24 rfl 3 3 i0 (.int .i64 0) 1 8 Tryz.underlying24 hi hz0 hz1 hz2 rfl (by decide) _ _ _ rfl HR1.out ⟨vb, 0, none⟩ 1 1 [.int .i64 x] rfl rfl HNW.out (one1 _ _) (by unfold maxLen; omega) (by omega) HBA1.out ?_)
  intro v2 w2 h2 hg hat hk
  have cu2 := HCU.out.more (l := [x]) (by simpa [codeC] using h2) hg hat (by rw [hlen1]; exact hk)
  have hlen2 : (dc ++ [op] ++ [x]).length = dc.length + 1 + 1 := by simp
  have hrow2 := cu2.row
  rw [hlen2] at hrow2
  obtain ⟨g2, cap2, hv2, _⟩ := row_cells hrow2 (by omega)
  have hd2 : Blk w2 db (defC bb tk (.slice ad dc.length cap) bv kn) 209 := HD.out.blk.chg cu2.chg HN.out
  have e3 : w2.cell? ⟨db, 2, none⟩ = some (.slice ad dc.length cap) := hd2.cell 2 _ rfl
  have q3 := hd2.frozen 2
  have HCU2 := hidden cu2
  subst hv2
  clear h2 hg hat hk cu2 hrow2 hd2 HBA1 e2 q2
  go_wp2_with fail
  have hap : dc ++ op :: [x] = dc ++ [op] ++ [x] := by simp
  go_end0
  refine ⟨rfl, ⟨_, HD.out.emit (l := [op, x]) (by rw [hap]; exact HCU2.out)⟩, ?_⟩
  exact (HCU2.out.chg.mono (fun k _ e => Or.inr e)).trans ((Chg.refl (fun b => b = db ∨ (Value.slice ad dc.length cap).ownBlock = some b) w2).setCell (p := ⟨db, 2, none⟩) (Or.inl rfl) _)
theorem row_set_last {w : World} {base : Nat} {e : TypeId} {size g n cap k : Nat} {F cs : List Value} (h : w.ownsRow base e size (.slice (some ⟨g, 0, none⟩) n cap) n (F ++ cs)) (hF : F.length = k) (j : Nat) (u : Value) :
  (w.setCell ⟨g, k + j, none⟩ u).ownsRow base e size (.slice (some ⟨g, 0, none⟩) n cap) n (F ++ cs.set j u) := by
 have := ownsRow_set h (k + j) u
 rw [List.set_append_right _ _ (by omega), hF, Nat.add_sub_cancel_left] at this
 exact this
theorem DS.setLast {w0 w w' : World} {rb bb db : Nat} {rc : RC} {ev bcv dcv : Value} {es : List PE} {nv nt : Int} {pc dc : List Int} {tk : Int} {bs : List PB} {b b' : PB} {kn : Inf} {g n cap : Nat}
  (h : DS w0 w rb rc bb db ev bcv dcv (.slice (some ⟨g, 0, none⟩) n cap) es nv nt pc dc tk (bs ++ [b]) kn) (hc : Chg (fun k => k = g) w w')
  (hr : w'.ownsRow w0.heap.size 244 17 (.slice (some ⟨g, 0, none⟩) n cap) (bs.length + 1) (bs.flatMap PB.cells ++ b'.cells)) :
  DS w0 w' rb rc bb db ev bcv dcv (.slice (some ⟨g, 0, none⟩) n cap) es nv nt pc dc tk (bs ++ [b']) kn := by
 have hrb := h.rdr.1
 have hgb := h.rdr.2
 have no : ∀ {c : Array Value} {t : TypeId} {k : Nat}, Blk w k c t → t ≠ 244 → ¬ k = g := fun hb hne e => own_blk h.row hb hne (by rw [e]; rfl)
 have n2 : ∀ {base : Nat} {e : TypeId} {size n : Nat} {v : Value} {xs : List Value}, w.ownsRow base e size v n xs → e ≠ 244 → ∀ k, v.ownBlock = some k → ¬ k = g := fun ho hne k hk e => own_own ho h.row hne hk (by rw [e]; rfl)
 have hge : w0.heap.size ≤ g := by
  rcases h.row.2 with ⟨hx, _⟩ | ⟨g', cap', cur, hv, hb, _⟩
  ·cases hx
  ·obtain ⟨rfl, rfl⟩ : g = g' ∧ cap = cap' := by simp at hv; exact ⟨hv.1, hv.2.2⟩
   exact hb
 refine ⟨h.sys.chg hc (no h.sys.blk (by decide)) (n2 h.sys.row (by decide)) (n2 h.sys.cod (by decide)), h.blk.chg hc (no h.blk (by decide)), ownsRow_chg h.cod hc (n2 h.cod (by decide)), by simpa using hr, h.tab.chg hc (fun k e => by have := h.tl; omega), ⟨hrb.chg hc (no hrb (by decide)), hgb.chg hc (no hgb (by decide))⟩, h.ru, h.tl, h.pre, h.new, h.loc, h.frm.thru hc (fun k hk e => by omega)⟩
def PB.add (b : PB) (i : Inf) : PB := { b with does := b.does.then i, numbers := 0 }
theorem def_add {w0 w : World} {rb bb db : Nat} {rc : RC} {ev bcv dcv bv : Value} {es : List PE} {nv nt : Int} {pc dc : List Int} {tk : Int} {bs : List PB} {b : PB} {kn : Inf}
  (h : DS w0 w rb rc bb db ev bcv dcv bv es nv nt pc dc tk (bs ++ [b]) kn) (i : Inf) (hi : i.Ok) (hd : b.does.Ok) (hl : bs.length ≤ 1000000000) :
  Calls Tryz.prog 182 #[.pointer (some ⟨db, 0, none⟩), i.tm] w fun e w' => e = .returned (.tuple #[]) ∧ DS w0 w' rb rc bb db ev bcv dcv bv es nv nt pc dc tk (bs ++ [b.add i]) kn ∧ Chg (fun k => bv.ownBlock = some k) w w' := by
 obtain ⟨g, cap, hv, hcap, hge, hg, hfr, hcell⟩ := h.last
 have HI := hidden (fun w' (hb : Below w.heap.size w w') => def_inner (h.below (w' := w') hb) hl g cap hv hcap)
 have HT := hidden (fun w' => eff_then b.does i hd hi w')
 have d4 : w.cell? ⟨g, bs.length * 17 + 4, none⟩ = some (.int .i64 b.does.need) := hcell 4 _ rfl
 have d5 : w.cell? ⟨g, bs.length * 17 + 5, none⟩ = some (.int .i64 b.does.net) := hcell 5 _ rfl
 have d6 : w.cell? ⟨g, bs.length * 17 + 6, none⟩ = some (.int .i64 b.does.high) := hcell 6 _ rfl
 have d7 : w.cell? ⟨g, bs.length * 17 + 7, none⟩ = some (.int .i64 b.does.steps) := hcell 7 _ rfl
 have d8 : w.cell? ⟨g, bs.length * 17 + 8, none⟩ = some (.bool (!b.does.str)) := hcell 8 _ rfl
 have d14 : w.cell? ⟨g, bs.length * 17 + 14, none⟩ = some (.int .i64 b.numbers) := hcell 14 _ rfl
 subst hv
 have HD := hidden h
 clear h hcell
 simp only [Inf.tm] at HT ⊢
 go_enter Tryz.func182, Tryz.ntmps182
 go_wp2_with fail
 have hb0 : Below w.heap.size w (w.alloc (.cells #[.int .i64 i.need, .int .i64 i.net, .int .i64 i.high, .int .i64 i.steps, .bool (!i.str)] 151 (0, 0))) := (Below.refl _ _).alloc (Nat.le_refl _) _
 have hk0 := blk_new w #[.int .i64 i.need, .int .i64 i.net, .int .i64 i.high, .int .i64 i.steps, .bool (!i.str)] 151
 refine (HI.out _ hb0).mono ?_
 rintro e w1 ⟨rfl, hb1⟩
 have hk1 := hk0.sub hb1 (by simp)
 have hlt1 := hk1.lt
 have hbw : Below w.heap.size w w1 := hb0.trans (hb1.mono (by simp))
 have i0 := hk1.cell 0 _ rfl; have i1 := hk1.cell 1 _ rfl; have i2 := hk1.cell 2 _ rfl; have i3 := hk1.cell 3 _ rfl; have i4 := hk1.cell 4 _ rfl
 simp only [List.getElem_toArray, List.getElem_cons_succ, List.getElem_cons_zero] at i0 i1 i2 i3 i4
 replace d4 := (hbw.cell (p := ⟨g, bs.length * 17 + 4, none⟩) hg).trans d4
 replace d5 := (hbw.cell (p := ⟨g, bs.length * 17 + 5, none⟩) hg).trans d5
 replace d6 := (hbw.cell (p := ⟨g, bs.length * 17 + 6, none⟩) hg).trans d6
 replace d7 := (hbw.cell (p := ⟨g, bs.length * 17 + 7, none⟩) hg).trans d7
 replace d8 := (hbw.cell (p := ⟨g, bs.length * 17 + 8, none⟩) hg).trans d8
 replace d14 := (hbw.cell (p := ⟨g, bs.length * 17 + 14, none⟩) hg).trans d14
 have HBW := hidden hbw
 have hgw1 : g < w1.heap.size := Nat.lt_of_lt_of_le hg hbw.size
 clear hb0 hk0 hb1 hk1 hbw HI
 go_wp2_with fail
 have hc := fun (B : Nat) (w0 : World) (u : Und B w0) (b o : Nat) (h : b < B) => u.cell b o h
 have hne := Und.ne
 refine wp_region_und_tail w1.heap.size 7 (by kernel_rfl) (by kernel_rfl) ?_
 simp only [List.take_succ_cons, List.take_zero, List.drop_succ_cons, List.drop_zero]
 repeat (go_big_quiet_step ((go_at_call 203; exact Und.calls (Nat.le_refl _) _ (HT.out _))))
 refine wpQuiet_nil ?_
 intro u
 obtain ⟨w2, hb2⟩ := u
 dsimp only
 replace d4 := (hb2.cell (p := ⟨g, bs.length * 17 + 4, none⟩) hgw1).trans d4
 replace d5 := (hb2.cell (p := ⟨g, bs.length * 17 + 5, none⟩) hgw1).trans d5
 replace d6 := (hb2.cell (p := ⟨g, bs.length * 17 + 6, none⟩) hgw1).trans d6
 replace d7 := (hb2.cell (p := ⟨g, bs.length * 17 + 7, none⟩) hgw1).trans d7
 replace d8 := (hb2.cell (p := ⟨g, bs.length * 17 + 8, none⟩) hgw1).trans d8
 replace d14 := (hb2.cell (p := ⟨g, bs.length * 17 + 14, none⟩) hgw1).trans d14
 have hbw2 : Below w.heap.size w w2 := HBW.out.trans (hb2.mono HBW.out.size)
 have hfr2 : ∀ o, w2.frozen? ⟨g, o, none⟩ = false := fun o => (hbw2.frozen (p := ⟨g, o, none⟩) hg).trans (hfr o)
 have q4 := hfr2 (bs.length * 17 + 4); have q5 := hfr2 (bs.length * 17 + 5); have q6 := hfr2 (bs.length * 17 + 6); have q7 := hfr2 (bs.length * 17 + 7); have q8 := hfr2 (bs.length * 17 + 8); have q14 := hfr2 (bs.length * 17 + 14)
 have HB2 := hidden hbw2
 clear hc hne hb2 hbw2 hfr2 hfr i0 i1 i2 i3 i4 HT
 obtain ⟨r, hr⟩ : ∃ r, r = b.does.then i := ⟨_, rfl⟩
 have HRR := hidden hr
 rw [← hr]
 clear hr
 go_wp2_with fail
 go_end0
 have hds := HD.out.below HB2.out
 have hrow := hds.row
 rw [List.length_append, List.length_singleton, List.flatMap_append, List.flatMap_singleton] at hrow
 have hF := flat_length PB.cells 17 (fun _ => rfl) bs
 have s1 := row_set_last hrow hF 4 (.int .i64 r.need)
 have s2 := row_set_last s1 hF 5 (.int .i64 r.net)
 have s3 := row_set_last s2 hF 6 (.int .i64 r.high)
 have s4 := row_set_last s3 hF 7 (.int .i64 r.steps)
 have s5 := row_set_last s4 hF 8 (.bool (!r.str))
 have s6 := row_set_last s5 hF 14 (.int .i64 0)
 have hch : ∀ {V : World}, V = (((((w2.setCell ⟨g, bs.length * 17 + 4, none⟩ (.int .i64 r.need)).setCell ⟨g, bs.length * 17 + 5, none⟩ (.int .i64 r.net)).setCell ⟨g, bs.length * 17 + 6, none⟩ (.int .i64 r.high)).setCell ⟨g, bs.length * 17 + 7, none⟩ (.int .i64 r.steps)).setCell ⟨g, bs.length * 17 + 8, none⟩ (.bool (!r.str))).setCell ⟨g, bs.length * 17 + 14, none⟩ (.int .i64 0) → Chg (fun k => k = g) w2 V := by
  rintro V rfl
  exact ((((((Chg.refl (fun k => k = g) w2).setCell (p := ⟨g, bs.length * 17 + 4, none⟩) rfl _).setCell (p := ⟨g, bs.length * 17 + 5, none⟩) rfl _).setCell (p := ⟨g, bs.length * 17 + 6, none⟩) rfl _).setCell (p := ⟨g, bs.length * 17 + 7, none⟩) rfl _).setCell (p := ⟨g, bs.length * 17 + 8, none⟩) rfl _).setCell (p := ⟨g, bs.length * 17 + 14, none⟩) rfl _
 refine ⟨rfl, hds.setLast (b' := b.add i) (hch rfl) ?_, ?_⟩
 ·have e : (((((b.cells.set 4 (.int .i64 r.need)).set 5 (.int .i64 r.net)).set 6 (.int .i64 r.high)).set 7 (.int .i64 r.steps)).set 8 (.bool (!r.str))).set 14 (.int .i64 0) = (b.add i).cells := by
   rw [HRR.out]; rfl
  rw [e] at s6; exact s6
 ·exact (Chg.ofBelow HB2.out).trans ((hch rfl).mono (fun k _ e => by rw [e]; rfl))
end Go.Proofs.YtcphhbofjkenaaaGreatDoor
