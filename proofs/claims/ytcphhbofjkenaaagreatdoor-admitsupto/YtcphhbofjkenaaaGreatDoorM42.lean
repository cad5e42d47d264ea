/- The law: do all lists that came out still read as the caller has written them? -/
import Derived.BigQuiet
import Derived.Test.YtcphhbofjkenaaaGreatDoorM41

namespace Go.Proofs.YtcphhbofjkenaaaGreatDoor
open Go Go.RowKit
set_option linter.unusedVariables false
set_option linter.unusedSimpArgs false

def nilV : Value := .slice none 0 0

/-- The things of a list of marks. -/
theorem mark_cells {j B : Nat} {w : World} {ua : Option Addr} {n uc q : Nat} {k : Nat} (hr : w.ownsRow B (bEt j) (bSz j) (.slice ua n uc) n (pats (bPat j q) n)) (hp : (bPat j q).length = bSz j) (h0 : 0 < bSz j) (hk : k < n) :
    ∃ g, ua = some ⟨g, 0, none⟩ ∧ g < w.heap.size ∧ ∀ m u, m < bSz j → (bPat j q)[m]? = some u → w.cell? ⟨g, k * bSz j + m, none⟩ = some u := by
  obtain ⟨g, cap', hv, _, hg, _, _, hc⟩ := row_cells hr (by omega)
  obtain ⟨rfl, rfl⟩ : ua = some ⟨g, 0, none⟩ ∧ uc = cap' := by simpa using hv
  refine ⟨g, rfl, hg, fun m u hm hu => hc _ _ ?_⟩
  have hlt : k * bSz j + m < n * bSz j := by
    have : (k + 1) * bSz j ≤ n * bSz j := Nat.mul_le_mul_right _ hk
    rw [Nat.add_mul, Nat.one_mul] at this; omega
  rw [pats_get _ (by omega) n _ (by rw [hp]; exact hlt), hp, Nat.mul_comm, Nat.mul_add_mod, Nat.mod_eq_of_lt hm]
  exact hu

set_option maxRecDepth 100000 in
set_option maxHeartbeats 8000000 in
theorem law_looks (B : Nat) (w : World) (wb : Nat) (lv : Value) (bk : B4) (G : G4) (hb : Blk w wb (lwB lv bk) 84) (hk : BookA B w bk G) (hlen : ∀ j, j < 4 → (G.get j).length ≤ 90000000) :
    Calls Tryz.prog 36 #[.pointer (some ⟨wb, 1, none⟩)] w fun e w' => e = .returned (.bool true) ∧ Below w.heap.size w w' := by
  obtain ⟨nv, iv, pv, ev⟩ := bk
  obtain ⟨g0, g1, g2, g3⟩ := G
  have r0 := hk.row 0 (by omega); have r1 := hk.row 1 (by omega); have r2 := hk.row 2 (by omega); have r3 := hk.row 3 (by omega)
  have l0 := hlen 0 (by omega); have l1 := hlen 1 (by omega); have l2 := hlen 2 (by omega); have l3 := hlen 3 (by omega)
  simp only [B4.get, G4.get] at r0 r1 r2 r3 l0 l1 l2 l3
  obtain ⟨na, nc, hnv, hncap, _⟩ := row_shape r0
  obtain ⟨ia, ic, hiv, hicap, _⟩ := row_shape r1
  obtain ⟨pa, pc, hpv, hpcap, _⟩ := row_shape r2
  obtain ⟨ea, ec, hev, hecap, _⟩ := row_shape r3
  subst hnv; subst hiv; subst hpv; subst hev
  have HC := hidden (fun (w' : World) (h : Below w.heap.size w w') => (show w'.cell? ⟨wb, 1, none⟩ = some (.slice na g0.length nc) ∧ w'.cell? ⟨wb, 2, none⟩ = some (.slice ia g1.length ic) ∧ w'.cell? ⟨wb, 3, none⟩ = some (.slice pa g2.length pc) ∧ w'.cell? ⟨wb, 4, none⟩ = some (.slice ea g3.length ec) from
    ⟨(hb.sub h hb.lt).cell 1 _ rfl, (hb.sub h hb.lt).cell 2 _ rfl, (hb.sub h hb.lt).cell 3 _ rfl, (hb.sub h hb.lt).cell 4 _ rfl⟩))
  have HK := hidden (fun (w' : World) (h : Below w.heap.size w w') => hk.below h)
  have hwb := hb.lt
  clear hb hk hlen r0 r1 r2 r3
  go_enter Tryz.func36, Tryz.ntmps36
  go_wp2_with fail
  go_loopw [3] (fun i wr => ∃ k : Nat, k ≤ g0.length ∧ i = .int .i64 k ∧ Hid (Below w.heap.size w wr)) (fun i _ => g0.length - (intOf i).toNat)
  case atStart => exact ⟨0, Nat.zero_le _, rfl, Below.refl _ _⟩
  case round =>
    obtain ⟨k, hk, rfl, HB⟩ := hrel
    obtain ⟨c1, c2, c3, c4⟩ := HC.out wr HB.out
    by_cases hlt : k < g0.length
    · have hli : (k : Int) < (g0.length : Int) := by omega
      have hl0 : (0 : Int) ≤ (k : Int) := by omega
      have hl9 : (k : Int) ≤ 90000000 := by omega
      obtain ⟨u, hu⟩ : ∃ u, g0[k]? = some u := ⟨_, List.getElem?_eq_getElem hlt⟩
      have HU := hidden hu
      clear hu
      have HMK := hidden (law_mark k wr (by omega))
      obtain ⟨m, hm⟩ : ∃ m, m = markS (k / 4) := ⟨_, rfl⟩
      rw [← hm] at HMK
      have HM := hidden hm
      clear hm
      go_wp2_with fail
      refine HMK.out.mono ?_
      rintro e w2 ⟨rfl, h2⟩
      have hb2 : Below w.heap.size w w2 := HB.out.trans (h2.mono HB.out.size)
      clear HMK h2
      obtain ⟨d1, d2, d3, d4⟩ := HC.out w2 hb2
      have hK2 := HK.out w2 hb2
      have hrow2 : w2.ownsRow B (bLt 0) 1 (.slice na g0.length nc) g0.length g0 := hK2.row 0 (by omega)
      obtain ⟨ng, nc', hv, _, hng, _, _, hcell⟩ := row_cells hrow2 (by omega)
      obtain ⟨rfl, rfl⟩ : na = some ⟨ng, 0, none⟩ ∧ nc = nc' := by simpa using hv
      obtain ⟨n, hn, hrow⟩ := hK2.mrk 0 (by omega) k u HU.out
      obtain ⟨ua, uc, hus, huc, _⟩ := row_shape hrow
      subst hus
      have e1 : w2.cell? ⟨ng, k, none⟩ = some (.slice ua n uc) := hcell k _ HU.out
      have HB2 := hidden hb2; have HRW := hidden hrow
      clear hb2 hcell hv hrow hrow2 hK2 c1 c2 c3 c4
      go_wp2_with fail
      go_loop [5] (fun j => ∃ q : Nat, q ≤ n ∧ j = .int .i64 q) (fun j => n - (intOf j).toNat)
      case atStart => exact ⟨0, Nat.zero_le _, rfl⟩
      case round =>
        obtain ⟨q, hq, rfl⟩ := hrel
        by_cases hqn : q < n
        · have hqi : (q : Int) < (n : Int) := by omega
          have hq0 : (0 : Int) ≤ (q : Int) := by omega
          obtain ⟨g, rfl, hg, hc⟩ := mark_cells HRW.out rfl (by decide) hqn
          have e2 : w2.cell? ⟨g, q, none⟩ = some (.string m) := by
            have := hc 0 _ (by decide) rfl
            rw [HM.out]; simpa [bSz] using this
          clear hc
          go_wp2_with fail
          go_round
          case rel => exact ⟨q + 1, by omega, by go_num⟩
          case measure => simp [intOf]; omega
        · have hqi : ¬ (q : Int) < (n : Int) := by omega
          go_wp2_with fail
          go_roundw
          case rel => exact ⟨k + 1, by omega, by go_num, HB2⟩
          case measure => simp [intOf]; omega
    · have hli : ¬ (k : Int) < (g0.length : Int) := by omega
      go_wp2_with fail
      go_loopw [6] (fun i wr => ∃ k : Nat, k ≤ g1.length ∧ i = .int .i64 k ∧ Hid (Below w.heap.size w wr)) (fun i _ => g1.length - (intOf i).toNat)
      case atStart => exact ⟨0, Nat.zero_le _, rfl, HB⟩
      case round =>
        clear HB
        obtain ⟨k, hk, rfl, HB⟩ := hrel
        obtain ⟨c1, c2, c3, c4⟩ := HC.out wr HB.out
        by_cases hlt : k < g1.length
        · have hli : (k : Int) < (g1.length : Int) := by omega
          have hl0 : (0 : Int) ≤ (k : Int) := by omega
          have hl9 : (k : Int) ≤ 90000000 := by omega
          obtain ⟨u, hu⟩ : ∃ u, g1[k]? = some u := ⟨_, List.getElem?_eq_getElem hlt⟩
          have HU := hidden hu
          clear hu
          obtain ⟨w2, hw2⟩ : ∃ w2 : World, w2 = wr := ⟨_, rfl⟩
          have hb2 : Below w.heap.size w w2 := by rw [hw2]; exact HB.out
          rw [← hw2]
          clear hw2
          obtain ⟨d1, d2, d3, d4⟩ := HC.out w2 hb2
          have hK2 := HK.out w2 hb2
          have hrow2 : w2.ownsRow B (bLt 1) 1 (.slice ia g1.length ic) g1.length g1 := hK2.row 1 (by omega)
          obtain ⟨ng, nc', hv, _, hng, _, _, hcell⟩ := row_cells hrow2 (by omega)
          obtain ⟨rfl, rfl⟩ : ia = some ⟨ng, 0, none⟩ ∧ ic = nc' := by simpa using hv
          obtain ⟨n, hn, hrow⟩ := hK2.mrk 1 (by omega) k u HU.out
          obtain ⟨ua, uc, hus, huc, _⟩ := row_shape hrow
          subst hus
          have e1 : w2.cell? ⟨ng, k, none⟩ = some (.slice ua n uc) := hcell k _ HU.out
          have HB2 := hidden hb2; have HRW := hidden hrow
          clear hb2 hcell hv hrow hrow2 hK2 c1 c2 c3 c4
          go_wp2_with fail
          go_loop [7] (fun j => ∃ q : Nat, q ≤ n ∧ j = .int .i64 q) (fun j => n - (intOf j).toNat)
          case atStart => exact ⟨0, Nat.zero_le _, rfl⟩
          case round =>
            obtain ⟨q, hq, rfl⟩ := hrel
            by_cases hqn : q < n
            · have hqi : (q : Int) < (n : Int) := by omega
              have hq0 : (0 : Int) ≤ (q : Int) := by omega
              obtain ⟨g, rfl, hg, hc⟩ := mark_cells HRW.out rfl (by decide) hqn
              have e2 : w2.cell? ⟨g, q, none⟩ = some (.int .i64 (-1000 - (k : Int) / 4)) := by
                have := hc 0 _ (by decide) rfl
                simpa [bSz] using this
              have e3 : ((-1000 - (k : Int) / 4) != (-1000 - (k : Int) / 4)) = false := by simp
              clear hc
              go_wp2_with fail
              go_round
              case rel => exact ⟨q + 1, by omega, by go_num⟩
              case measure => simp [intOf]; omega
            · have hqi : ¬ (q : Int) < (n : Int) := by omega
              go_wp2_with fail
              go_roundw
              case rel => exact ⟨k + 1, by omega, by go_num, HB2⟩
              case measure => simp [intOf]; omega
        · have hli : ¬ (k : Int) < (g1.length : Int) := by omega
          go_wp2_with fail
          go_loopw [8] (fun i wr => ∃ k : Nat, k ≤ g2.length ∧ i = .int .i64 k ∧ Hid (Below w.heap.size w wr)) (fun i _ => g2.length - (intOf i).toNat)
          case atStart => exact ⟨0, Nat.zero_le _, rfl, HB⟩
          case round =>
            clear HB
            obtain ⟨k, hk, rfl, HB⟩ := hrel
            obtain ⟨c1, c2, c3, c4⟩ := HC.out wr HB.out
            by_cases hlt : k < g2.length
            · have hli : (k : Int) < (g2.length : Int) := by omega
              have hl0 : (0 : Int) ≤ (k : Int) := by omega
              have hl9 : (k : Int) ≤ 90000000 := by omega
              obtain ⟨u, hu⟩ : ∃ u, g2[k]? = some u := ⟨_, List.getElem?_eq_getElem hlt⟩
              have HU := hidden hu
              clear hu
              obtain ⟨w2, hw2⟩ : ∃ w2 : World, w2 = wr.alloc (.cells #[.int .i64 (-1000 - (k : Int) / 4), .int .i64 0, .int .i64 0] 133 (0, 0)) := ⟨_, rfl⟩
              obtain ⟨mb, hmb⟩ : ∃ mb, mb = wr.heap.size := ⟨_, rfl⟩
              have hb2 : Below w.heap.size w w2 := by rw [hw2]; exact HB.out.alloc HB.out.size _
              have hkm : Blk w2 mb #[.int .i64 (-1000 - (k : Int) / 4), .int .i64 0, .int .i64 0] 133 := by rw [hw2, hmb]; exact blk_new wr _ _
              have HW2 := hidden hw2; have HMB := hidden hmb; have HKM := hidden hkm
              clear hw2 hmb hkm
              go_upto_region 22 with fail
              rw [← HW2.out, ← HMB.out]
              obtain ⟨d1, d2, d3, d4⟩ := HC.out w2 hb2
              have hK2 := HK.out w2 hb2
              have hrow2 : w2.ownsRow B (bLt 2) 1 (.slice pa g2.length pc) g2.length g2 := hK2.row 2 (by omega)
              obtain ⟨ng, nc', hv, _, hng, _, _, hcell⟩ := row_cells hrow2 (by omega)
              obtain ⟨rfl, rfl⟩ : pa = some ⟨ng, 0, none⟩ ∧ pc = nc' := by simpa using hv
              obtain ⟨n, hn, hrow⟩ := hK2.mrk 2 (by omega) k u HU.out
              obtain ⟨ua, uc, hus, huc, _⟩ := row_shape hrow
              subst hus
              have e1 : w2.cell? ⟨ng, k, none⟩ = some (.slice ua n uc) := hcell k _ HU.out
              have HB2 := hidden hb2; have HRW := hidden hrow
              clear hb2 hcell hv hrow hrow2 hK2 c1 c2 c3 c4
              go_wp2_with fail
              go_loopw [10] (fun j wr => ∃ q : Nat, q ≤ n ∧ j = .int .i64 q ∧ Hid (Below w2.heap.size w2 wr)) (fun j _ => n - (intOf j).toNat)
              case atStart => exact ⟨0, Nat.zero_le _, rfl, Below.refl _ _⟩
              case round =>
                obtain ⟨q, hq, rfl, HQ⟩ := hrel
                have HB3 := hidden (HB2.out.trans (HQ.out.mono HB2.out.size))
                clear d1 d2 d3 d4
                obtain ⟨d1, d2, d3, d4⟩ := HC.out wr HB3.out
                have e1q : wr.cell? ⟨ng, k, none⟩ = some (.slice ua n uc) := by rw [HQ.out.cell (p := ⟨ng, k, none⟩) hng]; exact e1
                clear e1
                by_cases hqn : q < n
                · have hqi : (q : Int) < (n : Int) := by omega
                  have hq0 : (0 : Int) ≤ (q : Int) := by omega
                  obtain ⟨g, rfl, hg, hc⟩ := mark_cells (ownsRow_chg HRW.out (Chg.ofBelow (S := fun _ => False) HQ.out) (fun _ _ => id)) rfl (by decide) hqn
                  have hKQ := HKM.out.sub HQ.out HKM.out.lt
                  have f0 : wr.cell? ⟨g, q * 3, none⟩ = some (.int .i64 (-1000 - (k : Int) / 4)) := by
                    have := hc 0 _ (by decide) rfl
                    simpa [bSz] using this
                  have m0 : wr.cell? ⟨mb, 0, none⟩ = some (.int .i64 (-1000 - (k : Int) / 4)) := hKQ.cell 0 _ rfl
                  have f1 : wr.cell? ⟨g, q * 3 + 1, none⟩ = some (.int .i64 0) := by
                    have := hc 1 _ (by decide) rfl
                    simpa [bSz] using this
                  have m1 : wr.cell? ⟨mb, 1, none⟩ = some (.int .i64 0) := hKQ.cell 1 _ rfl
                  have f2 : wr.cell? ⟨g, q * 3 + 2, none⟩ = some (.int .i64 0) := by
                    have := hc 2 _ (by decide) rfl
                    simpa [bSz] using this
                  have m2 : wr.cell? ⟨mb, 2, none⟩ = some (.int .i64 0) := hKQ.cell 2 _ rfl
                  clear hc hKQ
                  go_wp2_with fail
                  go_quiet (fail)
                  go_wp2_with fail
                  go_roundw
                  case rel => exact ⟨q + 1, by omega, by go_num, hidden (HQ.out.trans ⟨rfl, rfl, rfl, Nat.le_refl _, fun _ _ => rfl⟩)⟩
                  case measure => simp [intOf]; omega
                · have hqi : ¬ (q : Int) < (n : Int) := by omega
                  go_wp2_with fail
                  go_roundw
                  case rel => exact ⟨k + 1, by omega, by go_num, HB3⟩
                  case measure => simp [intOf]; omega
            · have hli : ¬ (k : Int) < (g2.length : Int) := by omega
              go_wp2_with fail
              go_loopw [11] (fun i wr => ∃ k : Nat, k ≤ g3.length ∧ i = .int .i64 k ∧ Hid (Below w.heap.size w wr)) (fun i _ => g3.length - (intOf i).toNat)
              case atStart => exact ⟨0, Nat.zero_le _, rfl, HB⟩
              case round =>
                clear HB
                obtain ⟨k, hk, rfl, HB⟩ := hrel
                obtain ⟨c1, c2, c3, c4⟩ := HC.out wr HB.out
                by_cases hlt : k < g3.length
                · have hli : (k : Int) < (g3.length : Int) := by omega
                  have hl0 : (0 : Int) ≤ (k : Int) := by omega
                  have hl9 : (k : Int) ≤ 90000000 := by omega
                  obtain ⟨u, hu⟩ : ∃ u, g3[k]? = some u := ⟨_, List.getElem?_eq_getElem hlt⟩
                  have HU := hidden hu
                  clear hu
                  obtain ⟨w2, hw2⟩ : ∃ w2 : World, w2 = wr.alloc (.cells #[.int .i64 (-1000 - (k : Int) / 4), .int .i64 0, .int .i64 0, .int .i64 0] 69 (0, 0)) := ⟨_, rfl⟩
                  obtain ⟨mb, hmb⟩ : ∃ mb, mb = wr.heap.size := ⟨_, rfl⟩
                  have hb2 : Below w.heap.size w w2 := by rw [hw2]; exact HB.out.alloc HB.out.size _
                  have hkm : Blk w2 mb #[.int .i64 (-1000 - (k : Int) / 4), .int .i64 0, .int .i64 0, .int .i64 0] 69 := by rw [hw2, hmb]; exact blk_new wr _ _
                  have HW2 := hidden hw2; have HMB := hidden hmb; have HKM := hidden hkm
                  clear hw2 hmb hkm
                  go_upto_region 31 with fail
                  rw [← HW2.out, ← HMB.out]
                  obtain ⟨d1, d2, d3, d4⟩ := HC.out w2 hb2
                  have hK2 := HK.out w2 hb2
                  have hrow2 : w2.ownsRow B (bLt 3) 1 (.slice ea g3.length ec) g3.length g3 := hK2.row 3 (by omega)
                  obtain ⟨ng, nc', hv, _, hng, _, _, hcell⟩ := row_cells hrow2 (by omega)
                  obtain ⟨rfl, rfl⟩ : ea = some ⟨ng, 0, none⟩ ∧ ec = nc' := by simpa using hv
                  obtain ⟨n, hn, hrow⟩ := hK2.mrk 3 (by omega) k u HU.out
                  obtain ⟨ua, uc, hus, huc, _⟩ := row_shape hrow
                  subst hus
                  have e1 : w2.cell? ⟨ng, k, none⟩ = some (.slice ua n uc) := hcell k _ HU.out
                  have HB2 := hidden hb2; have HRW := hidden hrow
                  clear hb2 hcell hv hrow hrow2 hK2 c1 c2 c3 c4
                  go_wp2_with fail
                  go_loopw [13] (fun j wr => ∃ q : Nat, q ≤ n ∧ j = .int .i64 q ∧ Hid (Below w2.heap.size w2 wr)) (fun j _ => n - (intOf j).toNat)
                  case atStart => exact ⟨0, Nat.zero_le _, rfl, Below.refl _ _⟩
                  case round =>
                    obtain ⟨q, hq, rfl, HQ⟩ := hrel
                    have HB3 := hidden (HB2.out.trans (HQ.out.mono HB2.out.size))
                    clear d1 d2 d3 d4
                    obtain ⟨d1, d2, d3, d4⟩ := HC.out wr HB3.out
                    have e1q : wr.cell? ⟨ng, k, none⟩ = some (.slice ua n uc) := by rw [HQ.out.cell (p := ⟨ng, k, none⟩) hng]; exact e1
                    clear e1
                    by_cases hqn : q < n
                    · have hqi : (q : Int) < (n : Int) := by omega
                      have hq0 : (0 : Int) ≤ (q : Int) := by omega
                      obtain ⟨g, rfl, hg, hc⟩ := mark_cells (ownsRow_chg HRW.out (Chg.ofBelow (S := fun _ => False) HQ.out) (fun _ _ => id)) rfl (by decide) hqn
                      have hKQ := HKM.out.sub HQ.out HKM.out.lt
                      have f0 : wr.cell? ⟨g, q * 4, none⟩ = some (.int .i64 (-1000 - (k : Int) / 4)) := by
                        have := hc 0 _ (by decide) rfl
                        simpa [bSz] using this
                      have m0 : wr.cell? ⟨mb, 0, none⟩ = some (.int .i64 (-1000 - (k : Int) / 4)) := hKQ.cell 0 _ rfl
                      have f1 : wr.cell? ⟨g, q * 4 + 1, none⟩ = some (.int .i64 0) := by
                        have := hc 1 _ (by decide) rfl
                        simpa [bSz] using this
                      have m1 : wr.cell? ⟨mb, 1, none⟩ = some (.int .i64 0) := hKQ.cell 1 _ rfl
                      have f2 : wr.cell? ⟨g, q * 4 + 2, none⟩ = some (.int .i64 0) := by
                        have := hc 2 _ (by decide) rfl
                        simpa [bSz] using this
                      have m2 : wr.cell? ⟨mb, 2, none⟩ = some (.int .i64 0) := hKQ.cell 2 _ rfl
                      have f3 : wr.cell? ⟨g, q * 4 + 3, none⟩ = some (.int .i64 0) := by
                        have := hc 3 _ (by decide) rfl
                        simpa [bSz] using this
                      have m3 : wr.cell? ⟨mb, 3, none⟩ = some (.int .i64 0) := hKQ.cell 3 _ rfl
                      clear hc hKQ
                      go_wp2_with fail
                      go_quiet (fail)
                      go_wp2_with fail
                      go_roundw
                      case rel => exact ⟨q + 1, by omega, by go_num, hidden (HQ.out.trans ⟨rfl, rfl, rfl, Nat.le_refl _, fun _ _ => rfl⟩)⟩
                      case measure => simp [intOf]; omega
                    · have hqi : ¬ (q : Int) < (n : Int) := by omega
                      go_wp2_with fail
                      go_roundw
                      case rel => exact ⟨k + 1, by omega, by go_num, HB3⟩
                      case measure => simp [intOf]; omega
                · have hli : ¬ (k : Int) < (g3.length : Int) := by omega
                  go_wp2_with fail
                  go_ret
                  exact ⟨rfl, HB.out⟩

end Go.Proofs.YtcphhbofjkenaaaGreatDoor
