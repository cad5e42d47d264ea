import Derived.Deep.DeepCutAuto
import Derived.Deep.RegionHeld3
import Derived.Test.YtcphhbofjkenaaaGreatDoorM06
import Derived.Test.YtcphhbofjkenaaaGreatDoorM12

namespace Go.Proofs.YtcphhbofjkenaaaGreatDoor
open Go.RowKit
set_option linter.unusedVariables false
set_option linter.unusedSimpArgs false

structure PE where
  name : ByteArray
  var : Bool
  place : Int
  inf : Inf

def PE.cells (e : PE) : List Value := [.string e.name, .bool e.var, .int .i64 e.place, .int .i64 e.inf.need, .int .i64 e.inf.net, .int .i64 e.inf.high, .int .i64 e.inf.steps, .bool (!e.inf.str)]
def PE.val (e : PE) : Value := .agg #[.string e.name, .bool e.var, .int .i64 e.place, .int .i64 e.inf.need, .int .i64 e.inf.net, .int .i64 e.inf.high, .int .i64 e.inf.steps, .bool (!e.inf.str)]
def PE.zero : PE := ⟨⟨#[]⟩, false, 0, Inf.zero⟩

structure PSys (w : World) (bb : Nat) (ev cv : Value) (es : List PE) (nv nt : Int) (code : List Int) : Prop where
  blk : Blk w bb #[ev, .int .i64 nv, .int .i64 nt, cv] 122
  row : w.ownsRow 3 153 8 ev es.length (es.flatMap PE.cells)
  cod : w.ownsRow 3 3 1 cv code.length (code.map (Value.int .i64))
  up : 3 ≤ bb

def lastP (es : List PE) (s : ByteArray) : Nat → Option PE
  | 0 => none
  | k + 1 => if ((es.getD k PE.zero).name.toList == s.toList) = true then some (es.getD k PE.zero) else lastP es s k
def lastRes : Option PE → Value
  | some e => .tuple #[e.val, .bool true]
  | none => .tuple #[PE.zero.val, .bool false]

theorem pe_cells {w : World} {bb : Nat} {ev cv : Value} {es : List PE} {nv nt : Int} {code : List Int} (h : PSys w bb ev cv es nv nt code) (i : Nat) (hi : i < es.length) :
    ∃ g cap, ev = .slice (some ⟨g, 0, none⟩) es.length cap ∧ es.length ≤ cap ∧ g < w.heap.size ∧ ∀ j, j < 8 → w.cell? ⟨g, i * 8 + j, none⟩ = (es.getD i PE.zero).cells[j]? := by
  obtain ⟨g, cap, hv, _, hg, h1, _, hc⟩ := row_cells h.row (by omega)
  refine ⟨g, cap, hv, h1, hg, fun j hj => ?_⟩
  have e := flat_get PE.cells 8 (fun _ => rfl) es i j hi hj
  have hx : es.getD i PE.zero = es[i] := by simp [hi]
  rw [hx]
  have hlt : j < (es[i]).cells.length := hj
  rw [List.getElem?_eq_getElem hlt] at e ⊢
  exact hc _ _ e

set_option maxHeartbeats 2000000 in
theorem book_last {w : World} {bb : Nat} {ev cv : Value} {es : List PE} {nv nt : Int} {code : List Int} (s : ByteArray) (h : PSys w bb ev cv es nv nt code) (hl : es.length ≤ 1000) :
    Calls Tryz.prog 105 #[.pointer (some ⟨bb, 0, none⟩), .string s] w fun e w' => e = .returned (lastRes (lastP es s es.length)) ∧ Below w.heap.size w w' := by
  obtain ⟨R, hR⟩ : ∃ R, R = lastP es s es.length := ⟨_, rfl⟩
  rw [← hR]
  have c0 : w.cell? ⟨bb, 0, none⟩ = some ev := h.blk.cell 0 _ rfl
  obtain ⟨ad, cap, rfl, hcap, _⟩ := row_shape h.row
  have hlt := h.blk.lt
  have HP := hidden h
  have HR := hidden hR
  clear h hR
  go_enter Tryz.func105, Tryz.ntmps105
  go_wp2_with fail
  go_loop [6] (fun i => ∃ j : Nat, j ≤ es.length ∧ i = .int .i64 ((j : Int) - 1) ∧ Hid (R = lastP es s j)) (fun i => (intOf i + 1).toNat)
  case atStart => exact ⟨es.length, Nat.le_refl _, rfl, HR⟩
  case round =>
    clear HR
    obtain ⟨j, hj, rfl, HR⟩ := hrel
    by_cases hz : j = 0
    · have HX : Hid (R = none) := by have := HR.out; rw [hz] at this; exact this
      subst hz
      go_wp2_with fail
      refine bodyPost_ret (v := .tuple #[PE.zero.val, .bool false]) (by simp [results, Tryz.results105, go_sem]; rfl) rfl ⟨?_, (Below.refl _ _).alloc (Nat.le_refl _) _⟩
      rw [HX.out]; rfl
    · obtain ⟨k, rfl⟩ : ∃ k, j = k + 1 := ⟨j - 1, by omega⟩
      have e1 : ((k + 1 : Nat) : Int) - 1 = (k : Int) := by omega
      rw [e1]
      obtain ⟨x, hx⟩ : ∃ x, x = es.getD k PE.zero := ⟨_, rfl⟩
      obtain ⟨g, cap', hve, _, hg, hcell⟩ := pe_cells HP.out k (by omega)
      obtain ⟨rfl, rfl⟩ : ad = some ⟨g, 0, none⟩ ∧ cap = cap' := by simpa using hve
      rw [← hx] at hcell
      have d0 : w.cell? ⟨g, k * 8, none⟩ = some (.string x.name) := by simpa [PE.cells] using hcell 0 (by omega)
      have d1 : w.cell? ⟨g, k * 8 + 1, none⟩ = some (.bool x.var) := by simpa [PE.cells] using hcell 1 (by omega)
      have d2 : w.cell? ⟨g, k * 8 + 2, none⟩ = some (.int .i64 x.place) := by simpa [PE.cells] using hcell 2 (by omega)
      have d3 : w.cell? ⟨g, k * 8 + 3, none⟩ = some (.int .i64 x.inf.need) := by simpa [PE.cells] using hcell 3 (by omega)
      have d4 : w.cell? ⟨g, k * 8 + 4, none⟩ = some (.int .i64 x.inf.net) := by simpa [PE.cells] using hcell 4 (by omega)
      have d5 : w.cell? ⟨g, k * 8 + 5, none⟩ = some (.int .i64 x.inf.high) := by simpa [PE.cells] using hcell 5 (by omega)
      have d6 : w.cell? ⟨g, k * 8 + 6, none⟩ = some (.int .i64 x.inf.steps) := by simpa [PE.cells] using hcell 6 (by omega)
      have d7 : w.cell? ⟨g, k * 8 + 7, none⟩ = some (.bool (!x.inf.str)) := by simpa [PE.cells] using hcell 7 (by omega)
      clear e1 hz hcell hve
      by_cases he : (x.name.toList == s.toList) = true
      · have HX : Hid (R = some x) := by have := HR.out; rw [lastP, ← hx, if_pos he] at this; exact this
        clear hx
        go_wp2_with fail
        refine bodyPost_ret (v := .tuple #[x.val, .bool true]) (by simp [results, Tryz.results105, go_sem]; rfl) rfl ⟨?_, (Below.refl _ _).alloc (Nat.le_refl _) _⟩
        rw [HX.out]; rfl
      · have HX : Hid (R = lastP es s k) := by have := HR.out; rw [lastP, ← hx, if_neg he] at this; exact this
        have he' : (x.name.toList == s.toList) = false := by simpa using he
        clear hx he
        go_wp2_with fail
        go_round
        case rel => exact ⟨k, by omega, by go_num, HX⟩
        case measure => simp [intOf]

end Go.Proofs.YtcphhbofjkenaaaGreatDoor

namespace Go.Proofs.YtcphhbofjkenaaaGreatDoor
open Go.RowKit
set_option linter.unusedVariables false
set_option linter.unusedSimpArgs false

theorem PSys.chg {S : Nat → Prop} {w w' : World} {bb : Nat} {ev cv : Value} {es : List PE} {nv nt : Int} {code : List Int} (h : PSys w bb ev cv es nv nt code) (hc : Chg S w w') (h1 : ¬ S bb) (h2 : ∀ k, ev.ownBlock = some k → ¬ S k) (h3 : ∀ k, cv.ownBlock = some k → ¬ S k) : PSys w' bb ev cv es nv nt code :=
  ⟨h.blk.chg hc h1, ownsRow_chg h.row hc h2, ownsRow_chg h.cod hc h3, h.up⟩
theorem PSys.below {w w' : World} {bb : Nat} {ev cv : Value} {es : List PE} {nv nt : Int} {code : List Int} (h : PSys w bb ev cv es nv nt code) (hb : Below w.heap.size w w') : PSys w' bb ev cv es nv nt code :=
  h.chg (Chg.ofBelow (S := fun _ => False) hb) id (fun _ _ => id) (fun _ _ => id)

def pe0 : Array Value := #[.string ⟨#[]⟩, .bool false, .int .i64 0, .int .i64 0, .int .i64 0, .int .i64 0, .int .i64 0, .bool false]
theorem Blk.pe0 {w : World} {b : Nat} {t : TypeId} (h : Blk w b pe0 t) : w.cell? ⟨b, 0, none⟩ = some (.string ⟨#[]⟩) ∧ w.cell? ⟨b, 1, none⟩ = some (.bool false) ∧ w.cell? ⟨b, 2, none⟩ = some (.int .i64 0) ∧ w.cell? ⟨b, 3, none⟩ = some (.int .i64 0) ∧ w.cell? ⟨b, 4, none⟩ = some (.int .i64 0) ∧ w.cell? ⟨b, 5, none⟩ = some (.int .i64 0) ∧ w.cell? ⟨b, 6, none⟩ = some (.int .i64 0) ∧ w.cell? ⟨b, 7, none⟩ = some (.bool false) :=
  ⟨h.cell 0 _ rfl, h.cell 1 _ rfl, h.cell 2 _ rfl, h.cell 3 _ rfl, h.cell 4 _ rfl, h.cell 5 _ rfl, h.cell 6 _ rfl, h.cell 7 _ rfl⟩
theorem Blk.free8 {w : World} {b : Nat} {t : TypeId} {cs : Array Value} (h : Blk w b cs t) : w.frozen? ⟨b, 0, none⟩ = false ∧ w.frozen? ⟨b, 1, none⟩ = false ∧ w.frozen? ⟨b, 2, none⟩ = false ∧ w.frozen? ⟨b, 3, none⟩ = false ∧ w.frozen? ⟨b, 4, none⟩ = false ∧ w.frozen? ⟨b, 5, none⟩ = false ∧ w.frozen? ⟨b, 6, none⟩ = false ∧ w.frozen? ⟨b, 7, none⟩ = false :=
  ⟨h.frozen 0, h.frozen 1, h.frozen 2, h.frozen 3, h.frozen 4, h.frozen 5, h.frozen 6, h.frozen 7⟩
theorem Blk.sub {w w' : World} {b : Nat} {cs : Array Value} {t : TypeId} {B : Nat} (h : Blk w b cs t) (hb : Below B w w') (hB : b < B) : Blk w' b cs t := (hb.block b hB).trans h

def wordRes : Option PE → Value
  | some e => .tuple #[e.val, .bool (!e.var)]
  | none => .tuple #[PE.zero.val, .bool false]

set_option maxHeartbeats 2000000 in
theorem book_word {w : World} {bb : Nat} {ev cv : Value} {es : List PE} {nv nt : Int} {code : List Int} (s : ByteArray) (h : PSys w bb ev cv es nv nt code) (hl : es.length ≤ 1000) :
    Calls Tryz.prog 72 #[.pointer (some ⟨bb, 0, none⟩), .string s] w fun e w' => e = .returned (wordRes (lastP es s es.length)) ∧ Below w.heap.size w w' := by
  have HL := hidden (fun w' hb => book_last s (h.below (w' := w') hb) hl)
  obtain ⟨R, hR⟩ : ∃ R, R = lastP es s es.length := ⟨_, rfl⟩
  rw [← hR] at HL ⊢
  clear h hR
  obtain ⟨n, v, p, a1, a2, a3, a4, a5, f, hl1, hl2⟩ : ∃ (n : ByteArray) (v : Bool) (p a1 a2 a3 a4 : Int) (a5 f : Bool), lastRes R = .tuple #[.agg #[.string n, .bool v, .int .i64 p, .int .i64 a1, .int .i64 a2, .int .i64 a3, .int .i64 a4, .bool a5], .bool f] ∧ wordRes R = .tuple #[.agg #[.string n, .bool v, .int .i64 p, .int .i64 a1, .int .i64 a2, .int .i64 a3, .int .i64 a4, .bool a5], .bool (f && !v)] := by
    rcases R with _ | x
    · exact ⟨_, _, _, _, _, _, _, _, _, rfl, rfl⟩
    · exact ⟨_, _, _, _, _, _, _, _, _, rfl, rfl⟩
  rw [hl1] at HL
  rw [hl2]
  clear hl1 hl2
  go_enter Tryz.func72, Tryz.ntmps72
  go_wp2_with fail
  have hb0 : Below w.heap.size w (w.alloc (.cells pe0 153 (0, 0))) := (Below.refl _ _).alloc (Nat.le_refl _) _
  have hk0 := blk_new w pe0 153
  refine (HL.out _ hb0).mono ?_
  rintro e w1 ⟨rfl, hb1⟩
  have hk1 := hk0.sub hb1 (by simp)
  have hlt1 := hk1.lt
  have hbw : Below w.heap.size w w1 := hb0.trans (hb1.mono (by simp))
  have HBW := hidden hbw
  have HK1 := hidden hk1
  clear hb0 hk0 hb1 hk1 hbw HL
  cases f
  · obtain ⟨W, hW⟩ : ∃ W : World, W = w1.alloc (.cells #[.string n, .bool v, .int .i64 p, .int .i64 a1, .int .i64 a2, .int .i64 a3, .int .i64 a4, .bool a5] 153 (0, 0)) := ⟨_, rfl⟩
    obtain ⟨E, hE⟩ : ∃ E, E = w1.heap.size := ⟨_, rfl⟩
    have hkE : Blk W E #[.string n, .bool v, .int .i64 p, .int .i64 a1, .int .i64 a2, .int .i64 a3, .int .i64 a4, .bool a5] 153 := by rw [hW, hE]; exact blk_new w1 _ _
    have hkR : Blk W w.heap.size pe0 153 := by rw [hW]; exact HK1.out.alloc _
    have hbW : Below w.heap.size w W := by rw [hW]; exact HBW.out.alloc HBW.out.size _
    have hne : E ≠ w.heap.size := by omega
    have hne' : w.heap.size ≠ E := by omega
    obtain ⟨g0, g1, g2, g3, g4, g5, g6, g7⟩ := hkR.free8
    obtain ⟨z0, z1, z2, z3, z4, z5, z6, z7⟩ := hkR.pe0
    have e0 := hkE.cell 0 _ rfl; have e1 := hkE.cell 1 _ rfl; have e2 := hkE.cell 2 _ rfl; have e3 := hkE.cell 3 _ rfl
    have e4 := hkE.cell 4 _ rfl; have e5 := hkE.cell 5 _ rfl; have e6 := hkE.cell 6 _ rfl; have e7 := hkE.cell 7 _ rfl
    simp only [List.getElem_toArray, List.getElem_cons_succ, List.getElem_cons_zero] at e0 e1 e2 e3 e4 e5 e6 e7
    have HKR := hidden hkR; have HBWW := hidden hbW
    clear hkE hkR hbW
    go_upto_region 2 with fail
    rw [← hW]
    rw [← hE]
    clear hW hE HBW HK1 hlt1
    go_region
    go_wp2_with fail
    refine bodyPost_ret (v := .tuple #[.agg #[.string n, .bool v, .int .i64 p, .int .i64 a1, .int .i64 a2, .int .i64 a3, .int .i64 a4, .bool a5], .bool (false && !v)]) (by simp [results, Tryz.results72, go_sem, z0, z1, z2, z3, z4, z5, z6, z7]) rfl ⟨rfl, ?_⟩
    exact ((((((((HBWW.out.setCell (Nat.le_refl _) _).setCell (Nat.le_refl _) _).setCell (Nat.le_refl _) _).setCell (Nat.le_refl _) _).setCell (Nat.le_refl _) _).setCell (Nat.le_refl _) _).setCell (Nat.le_refl _) _).setCell (Nat.le_refl _) _).drew
  · obtain ⟨W, hW⟩ : ∃ W : World, W = w1.alloc (.cells #[.string n, .bool v, .int .i64 p, .int .i64 a1, .int .i64 a2, .int .i64 a3, .int .i64 a4, .bool a5] 153 (0, 0)) := ⟨_, rfl⟩
    obtain ⟨E, hE⟩ : ∃ E, E = w1.heap.size := ⟨_, rfl⟩
    have hkE : Blk W E #[.string n, .bool v, .int .i64 p, .int .i64 a1, .int .i64 a2, .int .i64 a3, .int .i64 a4, .bool a5] 153 := by rw [hW, hE]; exact blk_new w1 _ _
    have hkR : Blk W w.heap.size pe0 153 := by rw [hW]; exact HK1.out.alloc _
    have hbW : Below w.heap.size w W := by rw [hW]; exact HBW.out.alloc HBW.out.size _
    have hne : E ≠ w.heap.size := by omega
    have hne' : w.heap.size ≠ E := by omega
    obtain ⟨g0, g1, g2, g3, g4, g5, g6, g7⟩ := hkR.free8
    obtain ⟨z0, z1, z2, z3, z4, z5, z6, z7⟩ := hkR.pe0
    have e0 := hkE.cell 0 _ rfl; have e1 := hkE.cell 1 _ rfl; have e2 := hkE.cell 2 _ rfl; have e3 := hkE.cell 3 _ rfl
    have e4 := hkE.cell 4 _ rfl; have e5 := hkE.cell 5 _ rfl; have e6 := hkE.cell 6 _ rfl; have e7 := hkE.cell 7 _ rfl
    simp only [List.getElem_toArray, List.getElem_cons_succ, List.getElem_cons_zero] at e0 e1 e2 e3 e4 e5 e6 e7
    have HKR := hidden hkR; have HBWW := hidden hbW
    clear hkE hkR hbW
    go_upto_region 2 with fail
    rw [← hW]
    rw [← hE]
    clear hW hE HBW HK1 hlt1
    go_region_held3 (fun w' => w'.cell? ⟨E, 0, none⟩ = some (.string n) ∧ w'.cell? ⟨E, 1, none⟩ = some (.bool v) ∧ w'.cell? ⟨E, 2, none⟩ = some (.int .i64 p) ∧ w'.cell? ⟨E, 3, none⟩ = some (.int .i64 a1) ∧ w'.cell? ⟨E, 4, none⟩ = some (.int .i64 a2) ∧ w'.cell? ⟨E, 5, none⟩ = some (.int .i64 a3) ∧ w'.cell? ⟨E, 6, none⟩ = some (.int .i64 a4) ∧ w'.cell? ⟨E, 7, none⟩ = some (.bool a5)) (go_keep) (fail)
    go_wp2_with fail
    refine bodyPost_ret (v := .tuple #[.agg #[.string n, .bool v, .int .i64 p, .int .i64 a1, .int .i64 a2, .int .i64 a3, .int .i64 a4, .bool a5], .bool (true && !v)]) (by simp [results, Tryz.results72, go_sem, z0, z1, z2, z3, z4, z5, z6, z7]) rfl ⟨rfl, ?_⟩
    exact ((((((((HBWW.out.setCell (Nat.le_refl _) _).setCell (Nat.le_refl _) _).setCell (Nat.le_refl _) _).setCell (Nat.le_refl _) _).setCell (Nat.le_refl _) _).setCell (Nat.le_refl _) _).setCell (Nat.le_refl _) _).setCell (Nat.le_refl _) _).drew

end Go.Proofs.YtcphhbofjkenaaaGreatDoor

namespace Go.Proofs.YtcphhbofjkenaaaGreatDoor
open Go.RowKit
set_option linter.unusedVariables false
set_option linter.unusedSimpArgs false

def findRes : Option PE → Value
  | some e => if e.var = true then .tuple #[.agg zero5, .int .i64 3] else .tuple #[e.inf.val, .int .i64 0]
  | none => .tuple #[.agg zero5, .int .i64 3]
def startRes : Option PE → Value
  | some e => if e.var = true then .tuple #[.int .i64 0, .int .i64 3] else .tuple #[.int .i64 e.place, .int .i64 0]
  | none => .tuple #[.int .i64 0, .int .i64 3]

set_option maxHeartbeats 2000000 in
theorem book_Find {w : World} {bb : Nat} {ev cv : Value} {es : List PE} {nv nt : Int} {code : List Int} (s : ByteArray) (h : PSys w bb ev cv es nv nt code) (hl : es.length ≤ 1000) :
    Calls Tryz.prog 42 #[.pointer (some ⟨bb, 0, none⟩), .string s] w fun e w' => e = .returned (findRes (lastP es s es.length)) ∧ Below w.heap.size w w' := by
  have HL := hidden (fun w' hb => book_word s (h.below (w' := w') hb) hl)
  obtain ⟨R, hR⟩ : ∃ R, R = lastP es s es.length := ⟨_, rfl⟩
  rw [← hR] at HL ⊢
  clear h hR
  obtain ⟨n, v, p, a1, a2, a3, a4, a5, f, hl1, hl2⟩ : ∃ (n : ByteArray) (v : Bool) (p a1 a2 a3 a4 : Int) (a5 f : Bool), wordRes R = .tuple #[.agg #[.string n, .bool v, .int .i64 p, .int .i64 a1, .int .i64 a2, .int .i64 a3, .int .i64 a4, .bool a5], .bool f] ∧ findRes R = .tuple #[.agg (if f = true then #[.int .i64 a1, .int .i64 a2, .int .i64 a3, .int .i64 a4, .bool (!a5)] else zero5), .int .i64 (if f = true then 0 else 3)] := by
    rcases R with _ | ⟨n, v, p, i⟩
    · exact ⟨_, _, _, _, _, _, _, _, _, rfl, rfl⟩
    · cases v
      · exact ⟨_, _, _, _, _, _, _, _, _, rfl, by simp [findRes, Inf.val]⟩
      · exact ⟨_, _, _, _, _, _, _, _, _, rfl, by simp [findRes]⟩
  rw [hl1] at HL
  rw [hl2]
  clear hl1 hl2
  go_enter Tryz.func42, Tryz.ntmps42
  go_wp2_with fail
  have hb0 : Below w.heap.size w (w.alloc (.cells zero5 36 (0, 0))) := (Below.refl _ _).alloc (Nat.le_refl _) _
  have hk0 := blk_new w zero5 36
  refine (HL.out _ hb0).mono ?_
  rintro e w1 ⟨rfl, hb1⟩
  have hk1 := hk0.sub hb1 (by simp)
  have hlt1 := hk1.lt
  have hbw : Below w.heap.size w w1 := hb0.trans (hb1.mono (by simp))
  have HBW := hidden hbw
  have HK1 := hidden hk1
  clear hb0 hk0 hb1 hk1 hbw HL
  obtain ⟨g0, g1, g2, g3, g4⟩ := HK1.out.free
  obtain ⟨z0, z1, z2, z3, z4⟩ := HK1.out.zero
  cases f
  · go_wp2_with fail
    refine bodyPost_ret (v := .tuple #[.agg zero5, .int .i64 3]) (by simp [results, Tryz.results42, go_sem, z0, z1, z2, z3, z4, zero5, hlt1]) rfl ⟨rfl, ?_⟩
    exact (((((HBW.out.setCell (Nat.le_refl _) _).setCell (Nat.le_refl _) _).setCell (Nat.le_refl _) _).setCell (Nat.le_refl _) _).setCell (Nat.le_refl _) _).alloc (by have := HBW.out.size; simpa [World.setCell] using this) _
  · go_wp2_with fail
    refine bodyPost_ret (v := .tuple #[.agg #[.int .i64 a1, .int .i64 a2, .int .i64 a3, .int .i64 a4, .bool (!a5)], .int .i64 0]) (by simp [results, Tryz.results42, go_sem, z0, z1, z2, z3, z4, hlt1]) rfl ⟨rfl, ?_⟩
    exact (((((HBW.out.setCell (Nat.le_refl _) _).setCell (Nat.le_refl _) _).setCell (Nat.le_refl _) _).setCell (Nat.le_refl _) _).setCell (Nat.le_refl _) _).alloc (by have := HBW.out.size; simpa [World.setCell] using this) _

set_option maxHeartbeats 2000000 in
theorem book_Start {w : World} {bb : Nat} {ev cv : Value} {es : List PE} {nv nt : Int} {code : List Int} (s : ByteArray) (h : PSys w bb ev cv es nv nt code) (hl : es.length ≤ 1000) :
    Calls Tryz.prog 43 #[.pointer (some ⟨bb, 0, none⟩), .string s] w fun e w' => e = .returned (startRes (lastP es s es.length)) ∧ Below w.heap.size w w' := by
  have HL := hidden (fun w' hb => book_word s (h.below (w' := w') hb) hl)
  obtain ⟨R, hR⟩ : ∃ R, R = lastP es s es.length := ⟨_, rfl⟩
  rw [← hR] at HL ⊢
  clear h hR
  obtain ⟨n, v, p, a1, a2, a3, a4, a5, f, hl1, hl2⟩ : ∃ (n : ByteArray) (v : Bool) (p a1 a2 a3 a4 : Int) (a5 f : Bool), wordRes R = .tuple #[.agg #[.string n, .bool v, .int .i64 p, .int .i64 a1, .int .i64 a2, .int .i64 a3, .int .i64 a4, .bool a5], .bool f] ∧ startRes R = .tuple #[.int .i64 (if f = true then p else 0), .int .i64 (if f = true then 0 else 3)] := by
    rcases R with _ | ⟨n, v, p, i⟩
    · exact ⟨_, _, _, _, _, _, _, _, _, rfl, rfl⟩
    · cases v
      · exact ⟨_, _, _, _, _, _, _, _, _, rfl, by simp [startRes]⟩
      · exact ⟨_, _, _, _, _, _, _, _, _, rfl, by simp [startRes]⟩
  rw [hl1] at HL
  rw [hl2]
  clear hl1 hl2
  go_enter Tryz.func43, Tryz.ntmps43
  go_wp2_with fail
  refine (HL.out _ (Below.refl _ _)).mono ?_
  rintro e w1 ⟨rfl, hb1⟩
  have HB := hidden hb1
  clear hb1 HL
  cases f
  · go_wp2_with fail
    refine bodyPost_ret (v := .tuple #[.int .i64 0, .int .i64 3]) (by simp [results, Tryz.results43, go_sem]) rfl ⟨rfl, ?_⟩
    exact HB.out.alloc HB.out.size _
  · go_wp2_with fail
    refine bodyPost_ret (v := .tuple #[.int .i64 p, .int .i64 0]) (by simp [results, Tryz.results43, go_sem]) rfl ⟨rfl, ?_⟩
    exact HB.out.alloc HB.out.size _

theorem book_Variables {w : World} {bb : Nat} {ev cv : Value} {es : List PE} {nv nt : Int} {code : List Int} (h : PSys w bb ev cv es nv nt code) :
    Calls Tryz.prog 46 #[.pointer (some ⟨bb, 0, none⟩)] w fun e w' => e = .returned (.int .i64 nv) ∧ w' = w := by
  have c1 : w.cell? ⟨bb, 1, none⟩ = some (.int .i64 nv) := h.blk.cell 1 _ rfl
  clear h
  go_enter Tryz.func46, Tryz.ntmps46
  go_wp2
  go_ret
  exact ⟨rfl, rfl⟩

theorem book_Code {w : World} {bb : Nat} {ev cv : Value} {es : List PE} {nv nt : Int} {code : List Int} (h : PSys w bb ev cv es nv nt code) :
    Calls Tryz.prog 48 #[.pointer (some ⟨bb, 0, none⟩)] w fun e w' => e = .returned cv ∧ w' = w := by
  have c3 : w.cell? ⟨bb, 3, none⟩ = some cv := h.blk.cell 3 _ rfl
  obtain ⟨ad, cap, rfl, _⟩ := row_shape h.cod
  clear h
  go_enter Tryz.func48, Tryz.ntmps48
  go_wp2
  go_ret
  exact ⟨rfl, rfl⟩

theorem opInf28 : opInf 28 = ⟨0, 1, 1, 1, true⟩ := rfl
theorem opInf33 : opInf 33 = ⟨0, 0, 0, 1, true⟩ := rfl

set_option maxHeartbeats 2000000 in
theorem entry_use (e : PE) (w : World) (ht : Tab w) (he : e.inf.Ok) :
    Calls Tryz.prog 191 #[e.val] w fun r w' => r = .returned (.tuple #[.int .i64 (if e.var then 28 else 33), (if e.var then opInf 28 else (opInf 33).then e.inf).tm]) ∧ Below w.heap.size w w' := by
  obtain ⟨n, v, p, i⟩ := e
  have h33 : (opInf 33).Ok := by rw [opInf33]; constructor <;> decide
  have H28 := hidden (fun w' (hb : Below w.heap.size w w') => code_effect 28 w' (by omega) (ht.below hb))
  have H33 := hidden (fun w' (hb : Below w.heap.size w w') => code_effect 33 w' (by omega) (ht.below hb))
  have HT := hidden (fun w' => eff_then (opInf 33) i h33 he w')
  clear ht he h33
  rw [opInf28] at H28 ⊢
  rw [opInf33] at H33 HT ⊢
  unfold PE.val
  cases v
  · simp only [Bool.false_eq_true, if_false]
    simp only [Inf.tm] at H33 HT ⊢
    obtain ⟨j, hj⟩ : ∃ j, j = Inf.then ⟨0, 0, 0, 1, true⟩ i := ⟨_, rfl⟩
    rw [← hj] at HT ⊢
    clear hj
    go_enter Tryz.func191, Tryz.ntmps191
    go_wp2_with fail
    have hc := fun (B : Nat) (w0 : World) (u : Und B w0) (b o : Nat) (h : b < B) => u.cell b o h
    have hne := Und.ne
    refine wp_region_und_tail (w.heap.size + 1 + 1) 4 (by kernel_rfl) (by kernel_rfl) ?_
    simp only [List.take_succ_cons, List.take_zero, List.drop_succ_cons, List.drop_zero]
    repeat (go_big_quiet_step ((first | (go_at_call 137; exact Und.calls (Nat.le_of_eq (by simp)) _ (H33.out _ (below2 (Und.below _)))) | (go_at_call 203; exact Und.calls (Nat.le_of_eq (by simp)) _ (HT.out _)))))
    refine wpQuiet_nil ?_
    intro u
    obtain ⟨w1, hb⟩ := u
    have hz := fun o => hb.cell (p := ⟨w.heap.size + 1, o, none⟩) (by simp)
    have hf := fun o => hb.frozen (p := ⟨w.heap.size + 1, o, none⟩) (by simp)
    have c0 := hz 0; have c1 := hz 1; have c2 := hz 2; have c3 := hz 3; have c4 := hz 4
    have f0 := hf 0; have f1 := hf 1; have f2 := hf 2; have f3 := hf 3; have f4 := hf 4
    clear hz hf hc hne
    simp [go_sem] at c0 c1 c2 c3 c4 f0 f1 f2 f3 f4
    go_wp2
    refine bodyPost_ret (v := .tuple #[.int .i64 33, .agg #[.int .i64 j.need, .int .i64 j.net, .int .i64 j.high, .int .i64 j.steps, .bool (!j.str)]]) (by simp [results, Tryz.results191, go_sem, c0, c1, c2, c3, c4]) rfl ⟨rfl, ?_⟩
    exact ((((((below2 hb).setCell (Nat.le_succ _) _).setCell (Nat.le_succ _) _).setCell (Nat.le_succ _) _).setCell (Nat.le_succ _) _).setCell (Nat.le_succ _) _)
  · simp only [if_true]
    simp only [Inf.tm] at H28 ⊢
    go_enter Tryz.func191, Tryz.ntmps191
    go_wp2_with fail
    refine (H28.out _ (((Below.refl _ _).alloc (Nat.le_refl _) _).alloc (by simp) _)).mono ?_
    rintro e w1 ⟨rfl, hb⟩
    have hz := fun o => hb.cell (p := ⟨w.heap.size + 1, o, none⟩) (by simp)
    have hf := fun o => hb.frozen (p := ⟨w.heap.size + 1, o, none⟩) (by simp)
    have c0 := hz 0; have c1 := hz 1; have c2 := hz 2; have c3 := hz 3; have c4 := hz 4
    have f0 := hf 0; have f1 := hf 1; have f2 := hf 2; have f3 := hf 3; have f4 := hf 4
    have HB := hidden (Below.trans (((Below.refl _ _).alloc (Nat.le_refl _) _).alloc (by simp) _) (hb.mono (by simp; omega)))
    clear hz hf hb
    simp [go_sem] at c0 c1 c2 c3 c4 f0 f1 f2 f3 f4
    go_wp2
    refine bodyPost_ret (v := .tuple #[.int .i64 28, .agg #[.int .i64 0, .int .i64 1, .int .i64 1, .int .i64 1, .bool (!true)]]) (by simp [results, Tryz.results191, go_sem, c0, c1, c2, c3, c4]) rfl ⟨rfl, ?_⟩
    exact (((((HB.out.setCell (Nat.le_succ _) _).setCell (Nat.le_succ _) _).setCell (Nat.le_succ _) _).setCell (Nat.le_succ _) _).setCell (Nat.le_succ _) _)

end Go.Proofs.YtcphhbofjkenaaaGreatDoor
