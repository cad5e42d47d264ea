import Derived.Deep.OwnRows
import Derived.Test.YtcphhbofjkenaaaGreatDoorP31

namespace Go.Proofs.YtcphhbofjkenaaaGreatDoor
open Go Go.RowKit
set_option linter.unusedVariables false
set_option linter.unusedSimpArgs false
set_option linter.unnecessarySimpa false

theorem Tryz.infoStr : (Tryz.prog.info? 9).map (fun i => (i.zero, i.size, i.bytes)) = some (some (.string ByteArray.empty), 1, 16) := by kernel_rfl

set_option maxRecDepth 100000 in
set_option maxHeartbeats 4000000 in
theorem book_words {w : World} {bb : Nat} {ev cv : Value} {es : List PE} {nv nt : Int} {code : List Int} (h : PSys w bb ev cv es nv nt code) (hl : es.length ≤ 1000) (ht : Tab w) :
    Calls Tryz.prog 61 #[.pointer (some ⟨bb, 0, none⟩)] w fun e w' => ∃ g, e = .returned (.slice (some ⟨g, 0, none⟩) es.length es.length) ∧ w.heap.size ≤ g ∧ w'.rowIs g 9 es.length (fun i => .string (es.getD i PE.zero).name) ∧ Below w.heap.size w w' := by
  have c0 : w.cell? ⟨bb, 0, none⟩ = some ev := h.blk.cell 0 _ rfl
  have hlt := h.blk.lt
  obtain ⟨ad, cap, hev, hcap, hrow⟩ := row_shape h.row
  rw [hev] at c0
  have HP := hidden h; have HT := hidden ht
  have hmk := run_make_row' (P := Tryz.prog) 71 9 (.string ByteArray.empty) 16 Tryz.underlying71 Tryz.infoStr rfl .i64 .i64 es.length (by omega) (by omega)
  clear h ht
  go_enter Tryz.func61, Tryz.ntmps61
  go_wp2_with fail
  have hr0 := w.rowIs_made (.string ByteArray.empty) es.length 9
  have hb0 : Below w.heap.size w (w.alloc (.cells (madeCells #[.string ByteArray.empty] es.length) 9 (0, 0))) := (Below.refl _ _).alloc (Nat.le_refl _) _
  obtain ⟨H, hH⟩ : ∃ H, H = w.heap.size := ⟨_, rfl⟩
  rw [← hH] at hr0 hb0 ⊢
  have HR0 := hidden hr0; have HB0 := hidden hb0; have HHH := hidden hH
  clear hr0 hb0 hmk hH
  go_loopw [17] (fun i wr => ∃ k : Nat, k ≤ es.length ∧ i = .int .i64 k ∧ Hid (wr.rowIs H 9 es.length (fun j => .string (if j < k then (es.getD j PE.zero).name else ByteArray.empty))) ∧ Hid (Below H w wr)) (fun i _ => es.length - (intOf i).toNat)
  case atStart => exact ⟨0, Nat.zero_le _, rfl, hidden (HR0.out.congr (fun i hi => by simp)), HB0⟩
  case round =>
    clear HR0 HB0
    obtain ⟨k, hk, rfl, HRW, HBW⟩ := hrel
    have hHl := HRW.out.lt
    by_cases hz : k < es.length
    · obtain ⟨x, hx⟩ : ∃ x, x = es.getD k PE.zero := ⟨_, rfl⟩
      have hps := HP.out.below (by rw [← HHH.out]; exact HBW.out)
      obtain ⟨g, cap', hve, _, hg, hcell⟩ := pe_cells hps k hz
      rw [hev] at hve
      obtain ⟨rfl, rfl⟩ : ad = some ⟨g, 0, none⟩ ∧ cap = cap' := by simpa using hve
      rw [← hx] at hcell
      have d0 : wr.cell? ⟨g, k * 8, none⟩ = some (.string x.name) := by simpa [PE.cells] using hcell 0 (by omega)
      have d1 : wr.cell? ⟨g, k * 8 + 1, none⟩ = some (.bool x.var) := by simpa [PE.cells] using hcell 1 (by omega)
      have d2 : wr.cell? ⟨g, k * 8 + 2, none⟩ = some (.int .i64 x.place) := by simpa [PE.cells] using hcell 2 (by omega)
      have d3 : wr.cell? ⟨g, k * 8 + 3, none⟩ = some (.int .i64 x.inf.need) := by simpa [PE.cells] using hcell 3 (by omega)
      have d4 : wr.cell? ⟨g, k * 8 + 4, none⟩ = some (.int .i64 x.inf.net) := by simpa [PE.cells] using hcell 4 (by omega)
      have d5 : wr.cell? ⟨g, k * 8 + 5, none⟩ = some (.int .i64 x.inf.high) := by simpa [PE.cells] using hcell 5 (by omega)
      have d6 : wr.cell? ⟨g, k * 8 + 6, none⟩ = some (.int .i64 x.inf.steps) := by simpa [PE.cells] using hcell 6 (by omega)
      have d7 : wr.cell? ⟨g, k * 8 + 7, none⟩ = some (.bool (!x.inf.str)) := by simpa [PE.cells] using hcell 7 (by omega)
      have q0 := HRW.out.cell hz
      have q1 := HRW.out.frozen k
      have HX := hidden hx
      clear hx hps hcell hve
      go_wp2_with fail
      go_roundw
      case rel =>
        refine ⟨k + 1, by omega, by go_num, hidden (((HRW.out.set k (.string x.name)).alloc _).congr (fun i hi => ?_)), hidden ((HBW.out.setCell (Nat.le_refl _) _).alloc (by have := HBW.out.size; simp [World.setCell]; omega) _)⟩
        by_cases e : i = k
        · subst e
          rw [if_pos rfl, if_pos (by omega), HX.out]
        · rw [if_neg e]
          by_cases e2 : i < k
          · rw [if_pos e2, if_pos (by omega)]
          · rw [if_neg e2, if_neg (by omega)]
      case measure => simp [intOf]; omega
    · obtain rfl : k = es.length := by omega
      go_wp2_with fail
      have hrw := HRW.out.congr (g := fun i => .string (es.getD i PE.zero).name) (fun i hi => by rw [if_pos hi])
      exact bodyPost_ret (v := .slice (some ⟨H, 0, none⟩) es.length es.length) (by simp [results, Tryz.results61, go_sem]) rfl ⟨H, rfl, by rw [HHH.out]; exact Nat.le_refl _, hrw, by have := HBW.out; rw [HHH.out] at this; exact this⟩

theorem forth_words {w : World} {bb : Nat} {ev cv : Value} {es : List PE} {nv nt : Int} {code : List Int} (h : PSys w bb ev cv es nv nt code) (hl : es.length ≤ 1000) (ht : Tab w) :
    Calls Tryz.prog 32 #[.pointer (some ⟨bb, 0, none⟩)] w fun e w' => ∃ g, e = .returned (.slice (some ⟨g, 0, none⟩) es.length es.length) ∧ w.heap.size ≤ g ∧ w'.rowIs g 9 es.length (fun i => .string (es.getD i PE.zero).name) ∧ Below w.heap.size w w' := by
  have H := hidden (book_words h hl ht)
  have hb := h.blk.lt
  clear h ht
  go_enter Tryz.func32, Tryz.ntmps32
  go_wp2_with fail
  refine (forth_book bb _).mono ?_
  rintro e w' ⟨rfl, rfl⟩
  go_wp2_with fail
  refine H.out.mono ?_
  rintro e w' ⟨g, rfl, h1, h2, h3⟩
  have HH := hidden (And.intro h1 (And.intro h2 h3))
  clear H h1 h2 h3
  go_wp2_with fail
  exact bodyPost_ret (v := .slice (some ⟨g, 0, none⟩) es.length es.length) (by simp [results, Tryz.results32, go_sem]) rfl ⟨g, rfl, HH.out⟩

end Go.Proofs.YtcphhbofjkenaaaGreatDoor
