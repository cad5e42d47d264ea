import Derived.BigQuiet
import Derived.Test.YtcphhbofjkenaaaGreatDoorP31
import Derived.Test.YtcphhbofjkenaaaGreatDoorP35
import Derived.Test.YtcphhbofjkenaaaGreatDoorP37

namespace Go.Proofs.YtcphhbofjkenaaaGreatDoor
open Go Go.RowKit
set_option linter.unusedVariables false
set_option linter.unusedSimpArgs false
attribute [local go_sem] quietG

def runK (C : Int) (D : Nat × Int × List Int × MW) : Int × Int × List Int × List Int × List Int := if C = 0 then ((D.1 : Int), D.2.1, D.2.2.1.reverse, D.2.2.2.outs, D.2.2.2.vars) else (0, 0, [], [], [])

theorem keep_runAny {w : World} {bb : Nat} {R : List PE × Int × Int × List Int} {ws : List RW} {sv iv : Value} {st ins : List Int} (h : KSys w bb R ws) (x : ByteArray) (f : Int) (hs : InsAt w.heap.size w sv st) (hj : InsAt w.heap.size w iv ins) (hl : st.length ≤ 1100000) (hl2 : ins.length ≤ 1100000) :
    Calls Tryz.prog 21 #[.pointer (some ⟨bb, 0, none⟩), .string x, sv, iv, .int .i64 f] w fun e w' => ∃ (xa oa va : Option Addr) (xn xc on oc vn vc : Nat), e = .returned (.tuple #[.agg #[.slice xa xn xc, .slice oa on oc, .slice va vn vc, .int .i64 (runK (runC ws x st ins f) (runD ws R.2.1.toNat x st ins f.toNat)).1, .int .i64 (runK (runC ws x st ins f) (runD ws R.2.1.toNat x st ins f.toNat)).2.1], .int .i64 (runC ws x st ins f)]) ∧
      OutK w.heap.size w' (.slice xa xn xc) (.slice oa on oc) (.slice va vn vc) (runK (runC ws x st ins f) (runD ws R.2.1.toNat x st ins f.toNat)).2.2.1 (runK (runC ws x st ins f) (runD ws R.2.1.toNat x st ins f.toNat)).2.2.2.1 (runK (runC ws x st ins f) (runD ws R.2.1.toNat x st ins f.toNat)).2.2.2.2 ∧ Below w.heap.size w w' := by
  obtain ⟨ev, cv, hsys⟩ := h.sys
  refine (forth_runD x f hsys h.inv h.tab h.alk hs hj (Nat.le_refl _) hl hl2).mono ?_
  rintro e w' ⟨hp, hb⟩
  generalize runC ws x st ins f = C at hp ⊢
  generalize runD ws R.2.1.toNat x st ins f.toNat = D at hp ⊢
  rcases hp with ⟨hne, rfl⟩ | ⟨rfl, xv, ov, vv, rfl, hro⟩
  · have hv : runK C D = (0, 0, [], [], []) := by unfold runK; rw [if_neg hne]
    rw [hv]
    exact ⟨none, none, none, 0, 0, 0, 0, 0, 0, rfl, ⟨World.ownsRow_nil _ _ _ _, World.ownsRow_nil _ _ _ _, World.ownsRow_nil _ _ _ _⟩, hb⟩
  · have hv : runK 0 D = ((D.1 : Int), D.2.1, D.2.2.1.reverse, D.2.2.2.outs, D.2.2.2.vars) := by unfold runK; rw [if_pos rfl]
    rw [hv]
    obtain ⟨xa, xn, xc, rfl⟩ := irow_shape hro.s
    obtain ⟨oa, on, oc, rfl⟩ := irow_shape hro.o
    obtain ⟨va, vn, vc, rfl⟩ := irow_shape hro.v
    exact ⟨xa, oa, va, xn, xc, on, oc, vn, vc, rfl, ⟨hro.s, hro.o, hro.v⟩, hb⟩

theorem runK_len {R : List PE × Int × Int × List Int} {ws : List RW} (hk : Alk R.1 R.2.2.2 ws) (x : ByteArray) (st ins : List Int) (f : Int) (nv : Nat) (hnv : nv ≤ 1000) :
    (runK (runC ws x st ins f) (runD ws nv x st ins f.toNat)).2.2.1.length ≤ 2000000 ∧ (runK (runC ws x st ins f) (runD ws nv x st ins f.toNat)).2.2.2.1.length ≤ 2000000 ∧ (runK (runC ws x st ins f) (runD ws nv x st ins f.toNat)).2.2.2.2.length ≤ 2000000 := by
  by_cases hC : runC ws x st ins f = 0
  · have h0 : (findI ws x).2 = 0 := by
      refine Classical.byContradiction fun h => ?_
      unfold runC at hC
      rw [if_pos h] at hC
      exact absurd hC (by decide)
    have hm : mayR st ins f = true := by
      refine Classical.byContradiction fun h => ?_
      unfold runC at hC
      rw [if_neg (by omega), if_neg h] at hC
      exact absurd hC (by decide)
    obtain ⟨_, _, _, _, _, r1, r2, r3⟩ := runD_runM hk h0 hm nv
    have hv : ∀ D, runK 0 D = ((D.1 : Int), D.2.1, D.2.2.1.reverse, D.2.2.2.outs, D.2.2.2.vars) := fun D => by unfold runK; rw [if_pos rfl]
    rw [hC, hv]
    simp only [List.length_reverse]
    exact ⟨by omega, by omega, by omega⟩
  · have hv : ∀ D, runK (runC ws x st ins f) D = (0, 0, [], [], []) := fun D => by unfold runK; rw [if_neg hC]
    rw [hv]; simp

theorem lay_outc (w : World) (cs : Array Value) : ∃ (ob : Nat) (Y : World), ob = w.heap.size ∧ Y = w.alloc (.cells cs 43 (0, 0)) ∧ Blk Y ob cs 43 ∧ Below w.heap.size w Y :=
  ⟨_, _, rfl, rfl, blk_new w _ _, (Below.refl _ _).alloc (Nat.le_refl _) _⟩
theorem lay_int (w : World) (x : Int) : ∃ (b : Nat) (Y : World), b = w.heap.size ∧ Y = w.alloc (.cells #[.int .i64 x] 3 (0, 0)) ∧ InsAt Y.heap.size Y (.slice (some ⟨b, 0, none⟩) 1 1) [x] ∧ Below w.heap.size w Y ∧ Y.heap.size = b + 1 := by
  refine ⟨_, _, rfl, rfl, Or.inr ⟨w.heap.size, 0, 1, rfl, by simp, by simp, fun j y hy => ?_⟩, (Below.refl _ _).alloc (Nat.le_refl _) _, by simp⟩
  match j, hy with
  | 0, hy =>
    obtain rfl : x = y := by simpa using hy
    exact (blk_new w #[.int .i64 x] 3).cell 0 _ rfl

set_option maxRecDepth 100000 in
set_option maxHeartbeats 8000000 in
theorem keep_sameWords {w : World} {aa bb : Nat} {R : List PE × Int × Int × List Int} {ws : List RW} (ha : KSys w aa R ws) (hb : KSys w bb R ws) :
    Calls Tryz.prog 26 #[.pointer (some ⟨aa, 0, none⟩), .pointer (some ⟨bb, 0, none⟩)] w fun e w' => e = .returned (.bool true) ∧ Below w.heap.size w w' := by
  obtain ⟨eva, cva, hsa⟩ := ha.sys
  obtain ⟨n, hn⟩ : ∃ n, n = R.1.length := ⟨_, rfl⟩
  obtain ⟨nm, hnm⟩ : ∃ nm : Nat → ByteArray, nm = fun i => (R.1.getD i PE.zero).name := ⟨_, rfl⟩
  have hn4 : n ≤ 40 := by rw [hn]; exact ha.inv.l
  have hwd : ∀ {w' : World} {b : Nat} {ev cv : Value}, PSys w' b ev cv R.1 R.2.1 R.2.2.1 R.2.2.2 → Tab w' → Calls Tryz.prog 32 #[.pointer (some ⟨b, 0, none⟩)] w' fun e w2 => ∃ g, e = .returned (.slice (some ⟨g, 0, none⟩) n n) ∧ w'.heap.size ≤ g ∧ w2.rowIs g 9 n (fun i => .string (nm i)) ∧ Below w'.heap.size w' w2 := fun {w' b ev cv} h ht => by
    have := forth_words h (by have := ha.inv.l; omega) ht
    rw [← hn] at this
    rw [hnm]
    exact this
  have HWa := hidden (hwd hsa ha.tab)
  have HWD : Hid (∀ {w' : World} {b : Nat} {ev cv : Value}, PSys w' b ev cv R.1 R.2.1 R.2.2.1 R.2.2.2 → Tab w' → Calls Tryz.prog 32 #[.pointer (some ⟨b, 0, none⟩)] w' fun e w2 => ∃ g, e = .returned (.slice (some ⟨g, 0, none⟩) n n) ∧ w'.heap.size ≤ g ∧ w2.rowIs g 9 n (fun i => .string (nm i)) ∧ Below w'.heap.size w' w2) := hidden hwd
  have HA := hidden ha; have HB := hidden hb
  clear ha hb hsa hwd hn hnm
  go_enter Tryz.func26, Tryz.ntmps26
  go_wp2_with fail
  refine HWa.out.mono ?_
  rintro e w1 ⟨g1, rfl, hg1, hrow1, hb1⟩
  obtain ⟨evb, cvb, hsb⟩ := (HB.out.below hb1).sys
  have HWb := hidden (HWD.out hsb (HB.out.below hb1).tab)
  have HB1 := hidden hb1; have HR1 := hidden hrow1
  clear hb1 hrow1 hsb HWa HWD
  go_wp2_with fail
  refine HWb.out.mono ?_
  rintro e w2 ⟨g2, rfl, hg2, hrow2, hb2⟩
  have HG : Hid (∀ w', Below w2.heap.size w2 w' → ∀ i, i < n → w'.cell? ⟨g1, i, none⟩ = some (.string (nm i)) ∧ w'.cell? ⟨g2, i, none⟩ = some (.string (nm i)) ∧ g1 < w'.heap.size ∧ g2 < w'.heap.size) := hidden fun w' hb' i hi => by
    have h1 := HR1.out.lt
    have h2 := hrow2.lt
    have h12 := hb2.size
    refine ⟨?_, (hb'.cell (p := ⟨g2, i, none⟩) h2).trans (hrow2.cell hi), by have := hb'.size; omega, by have := hb'.size; omega⟩
    exact (hb'.cell (p := ⟨g1, i, none⟩) (show g1 < w2.heap.size by omega)).trans ((hb2.cell (p := ⟨g1, i, none⟩) h1).trans (HR1.out.cell hi))
  have hb02 := HB1.out.trans (hb2.mono HB1.out.size)
  have HA2 := hidden (HA.out.below hb02); have HB2 := hidden (HB.out.below hb02)
  have HBE := hidden hb02
  clear hrow2 hb2 hb02 HWb HR1 HB1 HA HB
  have hee : ((n : Int) != (n : Int)) = false := by simp
  go_wp2_with fail
  go_loopw [7] (fun i wr => ∃ j : Nat, j ≤ n ∧ i = .int .i64 j ∧ Hid (Below w2.heap.size w2 wr)) (fun i _ => n - (intOf i).toNat)
  case atStart => exact ⟨0, Nat.zero_le _, rfl, hidden (Below.refl _ _)⟩
  case round =>
    obtain ⟨j, hj, rfl, HW⟩ := hrel
    by_cases hlt : j < n
    · have hji : (j : Int) < (n : Int) := by omega
      obtain ⟨c1, c2, l1, l2⟩ := HG.out wr HW.out j hlt
      obtain ⟨x, hx⟩ : ∃ x, x = nm j := ⟨_, rfl⟩
      rw [← hx] at c1 c2
      obtain ⟨⟨⟨b1, b2, b3, b4, b5⟩, fl⟩, hR⟩ : ∃ R, R = findI ws x := ⟨_, rfl⟩
      have hff : ∀ {b : Nat} {w' : World}, KSys w' b R ws → Calls Tryz.prog 18 #[.pointer (some ⟨b, 0, none⟩), .string x] w' fun e w3 => e = .returned (.tuple #[.agg #[.int .i64 b1, .int .i64 b2, .int .i64 b3, .int .i64 b4, .bool b5], .int .i64 fl]) ∧ Below w'.heap.size w' w3 := fun {b w'} h => by
        obtain ⟨ev, cv, hsys⟩ := h.sys
        have := forth_find x hsys (by have := h.inv.l; omega)
        rw [find_eq h.alk.toAlike, ← hR] at this
        exact this
      have HFA := hidden (hff (HA2.out.below HW.out))
      have HFF : Hid (∀ {b : Nat} {w' : World}, KSys w' b R ws → Calls Tryz.prog 18 #[.pointer (some ⟨b, 0, none⟩), .string x] w' fun e w3 => e = .returned (.tuple #[.agg #[.int .i64 b1, .int .i64 b2, .int .i64 b3, .int .i64 b4, .bool b5], .int .i64 fl]) ∧ Below w'.heap.size w' w3) := hidden hff
      have HX := hidden hx
      clear hff hR hx
      go_wp2_with fail
      refine HFA.out.mono ?_
      rintro e w7 ⟨rfl, hb7⟩
      obtain ⟨x7, hx7⟩ : ∃ x, x = w7.heap.size := ⟨_, rfl⟩
      obtain ⟨Y, hY⟩ : ∃ Y : World, Y = w7.alloc (.cells #[.int .i64 b1, .int .i64 b2, .int .i64 b3, .int .i64 b4, .bool b5] 36 (0, 0)) := ⟨_, rfl⟩
      have hbY : Below wr.heap.size wr Y := by rw [hY]; exact hb7.alloc hb7.size _
      have hkY : Blk Y x7 #[.int .i64 b1, .int .i64 b2, .int .i64 b3, .int .i64 b4, .bool b5] 36 := by rw [hY, hx7]; exact blk_new w7 _ _
      have hWY := HW.out.trans (hbY.mono HW.out.size)
      obtain ⟨y1, y2, m1, m2⟩ := HG.out Y hWY j hlt
      rw [← HX.out] at y1 y2
      have HRY := hidden (HFF.out (HB2.out.below hWY)); have HKY := hidden hkY; have HWY := hidden hWY; have HYY := hidden hY; have HX7 := hidden hx7
      clear HFA HFF hb7 hbY hkY hWY hY hx7 c1 c2 l1 l2 y1
      go_upto_region 9 with fail
      rw [← HYY.out, ← HX7.out]
      go_wp2_with fail
      refine HRY.out.mono ?_
      rintro e w8 ⟨rfl, hb8⟩
      obtain ⟨x8, hx8⟩ : ∃ x, x = w8.heap.size := ⟨_, rfl⟩
      obtain ⟨Z, hZ⟩ : ∃ Z : World, Z = w8.alloc (.cells #[.int .i64 b1, .int .i64 b2, .int .i64 b3, .int .i64 b4, .bool b5] 36 (0, 0)) := ⟨_, rfl⟩
      have hbZ : Below Y.heap.size Y Z := by rw [hZ]; exact hb8.alloc hb8.size _
      have hkZ : Blk Z x8 #[.int .i64 b1, .int .i64 b2, .int .i64 b3, .int .i64 b4, .bool b5] 36 := by rw [hZ, hx8]; exact blk_new w8 _ _
      have hkYZ := HKY.out.sub hbZ HKY.out.lt
      have hWZ := HWY.out.trans (hbZ.mono HWY.out.size)
      obtain ⟨z1, z2, k1, k2⟩ := HG.out Z hWZ j hlt
      rw [← HX.out] at z1 z2
      have s0 : Z.cell? ⟨x7, 0, none⟩ = some (.int .i64 b1) := hkYZ.cell 0 _ rfl
      have s1 : Z.cell? ⟨x7, 1, none⟩ = some (.int .i64 b2) := hkYZ.cell 1 _ rfl
      have s2 : Z.cell? ⟨x7, 2, none⟩ = some (.int .i64 b3) := hkYZ.cell 2 _ rfl
      have s3 : Z.cell? ⟨x7, 3, none⟩ = some (.int .i64 b4) := hkYZ.cell 3 _ rfl
      have s4 : Z.cell? ⟨x7, 4, none⟩ = some (.bool b5) := hkYZ.cell 4 _ rfl
      have t0 : Z.cell? ⟨x8, 0, none⟩ = some (.int .i64 b1) := hkZ.cell 0 _ rfl
      have t1 : Z.cell? ⟨x8, 1, none⟩ = some (.int .i64 b2) := hkZ.cell 1 _ rfl
      have t2 : Z.cell? ⟨x8, 2, none⟩ = some (.int .i64 b3) := hkZ.cell 2 _ rfl
      have t3 : Z.cell? ⟨x8, 3, none⟩ = some (.int .i64 b4) := hkZ.cell 3 _ rfl
      have t4 : Z.cell? ⟨x8, 4, none⟩ = some (.bool b5) := hkZ.cell 4 _ rfl
      have u7 := hkYZ.lt
      have u8 := hkZ.lt
      have hff : (fl != fl) = false := by simp
      have HWZ := hidden hWZ; have HZZ := hidden hZ; have HX8 := hidden hx8
      clear hb8 hbZ hkZ hkYZ hWZ hZ hx8 HRY y2 m1 m2 HKY HWY
      go_upto_region 10 with fail
      rw [← HZZ.out, ← HX8.out]
      go_quiet (fail)
      go_wp2_with fail
      go_roundw
      case rel => exact ⟨j + 1, by omega, by go_num, hidden (HWZ.out.trans ⟨rfl, rfl, rfl, Nat.le_refl _, fun _ _ => rfl⟩)⟩
      case measure => simp [intOf]; omega
    · obtain rfl : j = n := by omega
      have hji : ¬ (j : Int) < (j : Int) := by omega
      obtain ⟨C, hC⟩ : ∃ C, C = runC ws ⟨#[119, 48]⟩ [5] [7] 1000 := ⟨_, rfl⟩
      obtain ⟨V, hV⟩ : ∃ V, V = runK C (runD ws R.2.1.toNat ⟨#[119, 48]⟩ [5] [7] (1000 : Int).toNat) := ⟨_, rfl⟩
      have hlen := runK_len HA2.out.alk ⟨#[119, 48]⟩ [5] [7] 1000 R.2.1.toNat (by have := HA2.out.inv.v1; omega)
      rw [← hC, ← hV] at hlen
      obtain ⟨V1, V2, V3, V4, V5⟩ := V
      simp only at hlen
      have hrun : ∀ {b : Nat} {w' : World} {sv iv : Value}, KSys w' b R ws → InsAt w'.heap.size w' sv [5] → InsAt w'.heap.size w' iv [7] → Calls Tryz.prog 21 #[.pointer (some ⟨b, 0, none⟩), .string ⟨#[119, 48]⟩, sv, iv, .int .i64 1000] w' fun e w3 => ∃ (xa oa va : Option Addr) (xn xc on oc vn vc : Nat), e = .returned (.tuple #[.agg #[.slice xa xn xc, .slice oa on oc, .slice va vn vc, .int .i64 V1, .int .i64 V2], .int .i64 C]) ∧ OutK w'.heap.size w3 (.slice xa xn xc) (.slice oa on oc) (.slice va vn vc) V3 V4 V5 ∧ Below w'.heap.size w' w3 := fun {b w' sv iv} h h1 h2 => by
        have := keep_runAny h ⟨#[119, 48]⟩ 1000 h1 h2 (by simp) (by simp)
        rw [← hC, ← hV] at this
        exact this
      have HRUN : Hid (∀ {b : Nat} {w' : World} {sv iv : Value}, KSys w' b R ws → InsAt w'.heap.size w' sv [5] → InsAt w'.heap.size w' iv [7] → Calls Tryz.prog 21 #[.pointer (some ⟨b, 0, none⟩), .string ⟨#[119, 48]⟩, sv, iv, .int .i64 1000] w' fun e w3 => ∃ (xa oa va : Option Addr) (xn xc on oc vn vc : Nat), e = .returned (.tuple #[.agg #[.slice xa xn xc, .slice oa on oc, .slice va vn vc, .int .i64 V1, .int .i64 V2], .int .i64 C]) ∧ OutK w'.heap.size w3 (.slice xa xn xc) (.slice oa on oc) (.slice va vn vc) V3 V4 V5 ∧ Below w'.heap.size w' w3) := hidden hrun
      have HLEN := hidden hlen
      clear hC hV hlen hrun
      obtain ⟨q5, X1, hq5, hX1, hi5, hbX1, hs1⟩ := lay_int wr 5
      obtain ⟨q7, X2, hq7, hX2, hi7, hbX2, hs2⟩ := lay_int X1 7
      have hb2 := HW.out.trans ((hbX1.trans (hbX2.mono hbX1.size)).mono HW.out.size)
      have HR9 := hidden (HRUN.out (HA2.out.below hb2) ((hi5.below hbX2).mono hbX2.size) hi7)
      have HQ5 := hidden hq5; have HX1 := hidden hX1; have HX2 := hidden hX2
      have HQ7 : Hid (q5 + 1 = q7) := hidden (by rw [hq7]; exact hs1.symm)
      have HBX := hidden hb2
      clear hq5 hX1 hi5 hbX1 hs1 hq7 hX2 hi7 hbX2 hs2 hb2 HW
      go_wp2_with fail
      rw [← HX1.out, ← HQ5.out, HQ7.out, ← HX2.out]
      refine HR9.out.mono ?_
      rintro e w9 ⟨xa, oa, va, xn, xc, on, oc, vn, vc, rfl, ho9, hb9⟩
      obtain ⟨ob, Y9, hob, hY9, hk9, hbY9⟩ := lay_outc w9 #[.slice xa xn xc, .slice oa on oc, .slice va vn vc, .int .i64 V1, .int .i64 V2]
      obtain ⟨r5, Z1, hr5, hZ1, hi5, hbZ1, hs1⟩ := lay_int Y9 5
      obtain ⟨r7, Z2, hr7, hZ2, hi7, hbZ2, hs2⟩ := lay_int Z1 7
      have hbY := hb9.trans (hbY9.mono hb9.size)
      have hbZ := hbZ1.trans (hbZ2.mono hbZ1.size)
      have hb9Z := HBX.out.trans ((hbY.trans (hbZ.mono hbY.size)).mono HBX.out.size)
      have HO9 := hidden ((ho9.below hbY9).below hbZ)
      have HK9 := hidden (hk9.sub hbZ hk9.lt)
      have HR10 := hidden (HRUN.out (HB2.out.below hb9Z) ((hi5.below hbZ2).mono hbZ2.size) hi7)
      have HOB := hidden hob; have HY9 := hidden hY9; have HR5 := hidden hr5; have HZ1 := hidden hZ1; have HZ2 := hidden hZ2
      have HR7 : Hid (r5 + 1 = r7) := hidden (by rw [hr7]; exact hs1.symm)
      have HBZ := hidden hb9Z
      clear ho9 hb9 hob hY9 hk9 hbY9 hr5 hZ1 hi5 hbZ1 hs1 hr7 hZ2 hi7 hbZ2 hs2 hbY hbZ hb9Z HR9 HBX
      go_upto_region 13 with fail
      rw [← HY9.out, ← HOB.out]
      go_wp2_with fail
      rw [← HZ1.out, ← HR5.out, HR7.out, ← HZ2.out]
      refine HR10.out.mono ?_
      rintro e w10 ⟨xa', oa', va', xn', xc', on', oc', vn', vc', rfl, ho10, hb10⟩
      obtain ⟨pb, Y10, hpb, hY10, hk10, hbY10⟩ := lay_outc w10 #[.slice xa' xn' xc', .slice oa' on' oc', .slice va' vn' vc', .int .i64 V1, .int .i64 V2]
      have hbY := hb10.trans (hbY10.mono hb10.size)
      have HAL := hidden (keep_alike V1 V2 (HO9.out.below hbY) (ho10.below hbY10) HLEN.out.1 HLEN.out.2.1 HLEN.out.2.2)
      have HK9Y := hidden (HK9.out.sub hbY HK9.out.lt)
      have o0 : Y10.cell? ⟨ob, 0, none⟩ = some (.slice xa xn xc) := HK9Y.out.cell 0 _ rfl
      have o1 : Y10.cell? ⟨ob, 1, none⟩ = some (.slice oa on oc) := HK9Y.out.cell 1 _ rfl
      have o2 : Y10.cell? ⟨ob, 2, none⟩ = some (.slice va vn vc) := HK9Y.out.cell 2 _ rfl
      have o3 : Y10.cell? ⟨ob, 3, none⟩ = some (.int .i64 V1) := HK9Y.out.cell 3 _ rfl
      have o4 : Y10.cell? ⟨ob, 4, none⟩ = some (.int .i64 V2) := HK9Y.out.cell 4 _ rfl
      have p0 : Y10.cell? ⟨pb, 0, none⟩ = some (.slice xa' xn' xc') := hk10.cell 0 _ rfl
      have p1 : Y10.cell? ⟨pb, 1, none⟩ = some (.slice oa' on' oc') := hk10.cell 1 _ rfl
      have p2 : Y10.cell? ⟨pb, 2, none⟩ = some (.slice va' vn' vc') := hk10.cell 2 _ rfl
      have p3 : Y10.cell? ⟨pb, 3, none⟩ = some (.int .i64 V1) := hk10.cell 3 _ rfl
      have p4 : Y10.cell? ⟨pb, 4, none⟩ = some (.int .i64 V2) := hk10.cell 4 _ rfl
      have hol := HK9Y.out.lt
      have hpl := hk10.lt
      have HPB := hidden hpb; have HY10 := hidden hY10
      have HBY := hidden (HBZ.out.trans (hbY.mono HBZ.out.size))
      have hcc : (C == C) = true := by simp
      clear ho10 hb10 hpb hY10 hk10 hbY10 hbY HR10 HO9 HK9 HBZ HLEN HRUN
      go_upto_region 14 with fail
      rw [← HY10.out, ← HPB.out]
      go_wp2_with fail
      refine HAL.out.mono ?_
      rintro e w11 ⟨rfl, hb11⟩
      have HFIN := hidden (HBE.out.trans ((HBY.out.trans (hb11.mono HBY.out.size)).mono HBE.out.size))
      clear hb11 HAL o0 o1 o2 o3 o4 p0 p1 p2 p3 p4
      go_wp2_with fail
      go_ret
      exact ⟨rfl, HFIN.out⟩

end Go.Proofs.YtcphhbofjkenaaaGreatDoor

namespace Go.Proofs.YtcphhbofjkenaaaGreatDoor
open Go Go.RowKit
set_option linter.unusedVariables false
set_option linter.unusedSimpArgs false
attribute [local go_sem] quietG

structure LSys (lo : Nat) (w : World) (bb : Nat) (ev cv : Value) (R : List PE × Int × Int × List Int) : Prop where
  sys : PSys w bb ev cv R.1 R.2.1 R.2.2.1 R.2.2.2
  inv : LInv R.1 R.2.1 R.2.2.1 R.2.2.2
  tab : Tab w
  bas : lo ≤ bb
  rows : ∀ k, ev.ownBlock = some k → lo ≤ k
  cods : ∀ k, cv.ownBlock = some k → lo ≤ k
theorem LSys.below {lo : Nat} {w w' : World} {bb : Nat} {ev cv : Value} {R : List PE × Int × Int × List Int} (h : LSys lo w bb ev cv R) (hb : Below w.heap.size w w') : LSys lo w' bb ev cv R :=
  ⟨h.sys.below hb, h.inv, h.tab.below hb, h.bas, h.rows, h.cods⟩
def touch (bb : Nat) (ev cv : Value) (k : Nat) : Prop := k = bb ∨ ev.ownBlock = some k ∨ cv.ownBlock = some k
theorem LSys.touch_lo {lo : Nat} {w : World} {bb : Nat} {ev cv : Value} {R : List PE × Int × Int × List Int} (h : LSys lo w bb ev cv R) {k : Nat} (hk : touch bb ev cv k) : lo ≤ k := by
  rcases hk with rfl | e | e
  · exact h.bas
  · exact h.rows k e
  · exact h.cods k e
theorem LSys.touch_lt {lo : Nat} {w : World} {bb : Nat} {ev cv : Value} {R : List PE × Int × Int × List Int} (h : LSys lo w bb ev cv R) {k : Nat} (hk : touch bb ev cv k) : k < w.heap.size := by
  rcases hk with rfl | e | e
  · exact h.sys.blk.lt
  · exact own_lt h.sys.row e
  · exact own_lt h.sys.cod e
theorem LSys.load {lo : Nat} {w w' : World} {bb : Nat} {ev cv : Value} {R : List PE × Int × Int × List Int} {s : ByteArray} {e : Ending} (h : LSys lo w bb ev cv R) (hlo : lo ≤ w.heap.size) (hp : LoadPost w bb ev cv (loadR s R.1 R.2.1 R.2.2.1 R.2.2.2) e w') :
    e = .returned (.tuple #[.int .i64 (loadR s R.1 R.2.1 R.2.2.1 R.2.2.2).1.1, .int .i64 (loadR s R.1 R.2.1 R.2.2.1 R.2.2.2).1.2]) ∧ (∃ ev' cv', LSys lo w' bb ev' cv' (loadR s R.1 R.2.1 R.2.2.1 R.2.2.2).2 ∧ (∀ k, touch bb ev' cv' k → touch bb ev cv k ∨ w.heap.size ≤ k)) ∧ Chg (touch bb ev cv) w w' := by
  obtain ⟨h1, ⟨ev', cv', h2, h3, l1, l2⟩, h5, h6⟩ := hp
  refine ⟨h1, ⟨ev', cv', ⟨h2, h5, h3, h.bas, fun k hk => ?_, fun k hk => ?_⟩, fun k hk => ?_⟩, h6⟩
  · rcases l1 k hk with e | e
    · exact h.rows k e
    · omega
  · rcases l2 k hk with e | e
    · exact h.cods k e
    · omega
  · rcases hk with rfl | e | e
    · exact Or.inl (Or.inl rfl)
    · exact (l1 k e).imp (fun e => Or.inr (Or.inl e)) id
    · exact (l2 k e).imp (fun e => Or.inr (Or.inr e)) id
theorem LSys.chg {lo : Nat} {S : Nat → Prop} {w w' : World} {bb : Nat} {ev cv : Value} {R : List PE × Int × Int × List Int} (h : LSys lo w bb ev cv R) (hc : Chg S w w') (ht : Tab w') (hn : ∀ k, touch bb ev cv k → ¬ S k) : LSys lo w' bb ev cv R :=
  ⟨h.sys.chg hc (hn _ (Or.inl rfl)) (fun k hk => hn k (Or.inr (Or.inl hk))) (fun k hk => hn k (Or.inr (Or.inr hk))), h.inv, ht, h.bas, h.rows, h.cods⟩

theorem load_new2 {w w1 w2 : World} {bb : Nat} {s : ByteArray} {e : Ending} (h0 : w.heap.size ≤ bb) (hb : Below w.heap.size w w1) (hp : LoadPost w1 bb (.slice none 0 0) (.slice none 0 0) (loadR s [] 0 0 []) e w2) :
    e = .returned (.tuple #[.int .i64 (loadR s [] 0 0 []).1.1, .int .i64 (loadR s [] 0 0 []).1.2]) ∧ (∃ ev cv ws, LSys w.heap.size w2 bb ev cv (loadR s [] 0 0 []).2 ∧ Alk (loadR s [] 0 0 []).2.1 (loadR s [] 0 0 []).2.2.2.2 ws ∧ WsB ws) ∧ Below w.heap.size w w2 := by
  obtain ⟨h1, ⟨ev, cv, h2, h3, l1, l2⟩, h5, h6⟩ := hp
  obtain ⟨ws, a1, a2, _⟩ := load_ws s alk_nil LInv.zero wsOk_nil WsB.nil
  have hs := hb.size
  refine ⟨h1, ⟨ev, cv, ws, ⟨h2, h5, h3, h0, fun k hk => ?_, fun k hk => ?_⟩, a1, a2⟩, hb.trans (h6.toBelow hb.size fun b hbb e => ?_)⟩
  · rcases l1 k hk with e | e
    · simp [Value.ownBlock] at e
    · omega
  · rcases l2 k hk with e | e
    · simp [Value.ownBlock] at e
    · omega
  · rcases e with e | e | e
    · omega
    · simp [Value.ownBlock] at e
    · simp [Value.ownBlock] at e

def LoadedPost2 (w : World) (s : ByteArray) (e : Ending) (w' : World) : Prop := ∃ (bb : Nat) (ev cv : Value) (ws : List RW), e = .returned (.tuple #[.pointer (some ⟨bb, 0, none⟩), .bool ((loadR s [] 0 0 []).1.1 == 0)]) ∧ w.heap.size ≤ bb ∧ (LSys w.heap.size w' bb ev cv (loadR s [] 0 0 []).2 ∧ Alk (loadR s [] 0 0 []).2.1 (loadR s [] 0 0 []).2.2.2.2 ws ∧ WsB ws) ∧ Below w.heap.size w w'

set_option maxRecDepth 100000 in
set_option maxHeartbeats 4000000 in
theorem keep_loaded2 (w : World) (mb : Nat) {a : Option Addr} {nn c : Nat} {i : Int} {s : ByteArray} {k v : Int} {al : Bool} (hb : Blk w mb (mkC a nn c i s k v al) 34) (ht : Tab w) (hs : s.size ≤ 100000) :
    Calls Tryz.prog 15 #[.pointer (some ⟨mb, 0, none⟩)] w fun e w' => LoadedPost2 w s e w' := by
  have HT := hidden ht; have HB := hidden hb
  have HN := hidden (forth_new w ht)
  clear ht hb
  go_enter Tryz.func15, Tryz.ntmps15
  go_wp2_with fail
  refine HN.out.mono ?_
  rintro e w1 ⟨bb, hbb, rfl, hp, hb1⟩
  have HW := hidden (keep_works w1 (HT.out.below hb1))
  have HP := hidden hp; have HB1 := hidden hb1
  clear hp hb1 HN
  go_wp2_with fail
  refine HW.out.mono ?_
  rintro e w2 ⟨rfl, hb2⟩
  have hb12 := HB1.out.trans (hb2.mono HB1.out.size)
  have hbl := HB.out.sub hb12 HB.out.lt
  have c2 : w2.cell? ⟨mb, 2, none⟩ = some (.string s) := hbl.cell 2 _ rfl
  have hml := hbl.lt
  have HL := hidden (forth_load s (HP.out.below hb2) (HT.out.below hb12) (by omega) LInv.zero)
  have HB2 := hidden hb12
  clear hb2 hb12 hbl HW HP HB1
  go_wp2_with fail
  refine HL.out.mono ?_
  intro e w3 hpost
  obtain ⟨h1, ⟨ev, cv, ws, hK⟩, hb3⟩ := load_new2 hbb HB2.out hpost
  subst h1
  have HK := hidden hK; have HB3 := hidden hb3
  clear hpost hK hb3 HL HB2 c2
  obtain ⟨r1, hr1⟩ : ∃ r, r = (loadR s [] 0 0 []).1.1 := ⟨_, rfl⟩
  obtain ⟨r2, hr2⟩ : ∃ r, r = (loadR s [] 0 0 []).1.2 := ⟨_, rfl⟩
  rw [← hr1, ← hr2]
  have HR1 := hidden hr1
  clear hr1 hr2
  go_wp2_with fail
  exact bodyPost_ret (v := .tuple #[.pointer (some ⟨bb, 0, none⟩), .bool (r1 == 0)]) (by simp [results, Tryz.results15, go_sem]) rfl (show LoadedPost2 _ _ _ _ from ⟨bb, ev, cv, ws, by rw [HR1.out], hbb, HK.out, HB3.out⟩)
theorem few_words {s : ByteArray} (ht : TextOk s) (hc : s.data.toList.count 59 ≤ 4) (hi : LInv (loadR s [] 0 0 []).2.1 (loadR s [] 0 0 []).2.2.1 (loadR s [] 0 0 []).2.2.2.1 (loadR s [] 0 0 []).2.2.2.2) : (loadR s [] 0 0 []).2.1.length ≠ 40 := by
  have hb : badF s s.size 0 = none := bad_ascii (fun i hi => (ht.bytes i hi).2) _ _
  have hv := hi.v1
  have e : loadR s [] 0 0 [] = loadP s (s.size + 1) 0 [] 0 0 [] := by unfold loadR; rw [hb]
  rw [e] at hv ⊢
  have := loadP_words (fun i hi => (ht.bytes i hi).1) (s.size + 1) 0 [] 0 0 [] (Nat.zero_le _)
  rw [semis_all] at this
  simp only [List.length_nil] at this
  omega
theorem pieces_two {s : ByteArray} (ht : TextOk s) {x : Int} (hx : CutP s x) (hok : (loadR s [] 0 0 []).1.1 = 0) :
    (loadR (s.extract 0 x.toNat) [] 0 0 []).1.1 = 0 ∧ loadR (s.extract x.toNat s.size) (loadR (s.extract 0 x.toNat) [] 0 0 []).2.1 (loadR (s.extract 0 x.toNat) [] 0 0 []).2.2.1 (loadR (s.extract 0 x.toNat) [] 0 0 []).2.2.2.1 (loadR (s.extract 0 x.toNat) [] 0 0 []).2.2.2.2 = loadR s [] 0 0 [] := by
  obtain ⟨m, rfl, hm, h | ⟨i, h1, h2, h3, rfl⟩⟩ := hx
  · subst h
    have e0 : s.extract 0 ((0 : Nat) : Int).toNat = ⟨#[]⟩ := ext_empty s 0
    have e1 : s.extract ((0 : Nat) : Int).toNat s.size = s := ByteArray.extract_zero_size
    have e2 : loadR ⟨#[]⟩ [] 0 0 [] = ((0, 0), [], 0, 0, []) := by kernel_rfl
    rw [e0, e1, e2]
    exact ⟨rfl, rfl⟩
  · rw [Int.toNat_natCast]
    exact load_two (ht.cut h1 h2 h3) ht.bytes [] 0 0 [] hok

set_option maxRecDepth 100000 in
set_option maxHeartbeats 16000000 in
theorem keep_pieces {B : Nat} (w : World) (ht : Tab w) (a1 : Option Addr) (n1 c1 : Nat) (l1 : List Int) (z : Int) (t : ByteArray) (h1 : InsAt B w (.slice a1 n1 c1) l1) (i1 : ∀ x ∈ l1, I64 x) (iz : I64 z) (hB : B ≤ w.heap.size) (e1 : l1.length ≤ 1100000) (et : t.size ≤ 1048576) :
    Calls Tryz.prog 6 #[.slice a1 n1 c1, .int .i64 z, .string t] w fun e w' => e = .returned (.bool true) ∧ Below w.heap.size w w' := by
  have HT := hidden ht
  have HM := hidden (mk_made w a1 n1 c1 l1 false h1 i1 hB e1)
  have HZ := hidden iz
  clear ht h1 i1 iz
  go_enter Tryz.func6, Tryz.ntmps6
  go_wp2_with fail
  refine HM.out.mono ?_
  rintro e w1 ⟨mb, i, s, k, v, rfl, hmb, k1, k4, hsz, hto, hcn, hbl, hb1⟩
  have HL := hidden (keep_loaded2 w1 mb hbl (HT.out.below hb1) hsz)
  have HBL := hidden hbl; have HB1 := hidden hb1; have HTO := hidden hto; have HCN := hidden hcn
  have hml1 := hbl.lt
  clear hbl hb1 HM hto hcn
  go_wp2_with fail
  refine HL.out.mono ?_
  rintro e w2 ⟨aa, eva, cva, ws, rfl, haa, ⟨hA, hAk, hWs⟩, hb2⟩
  have HN := hidden (forth_new w2 hA.tab)
  have HFEW := hidden (few_words HTO.out HCN.out hA.inv)
  obtain ⟨R, hR⟩ : ∃ R, R = (loadR s [] 0 0 []).2 := ⟨_, rfl⟩
  have hfew : R.1.length ≠ 40 := by rw [hR]; exact HFEW.out
  rw [← hR] at hA hAk
  obtain ⟨okb, hok⟩ : ∃ o : Int, o = (loadR s [] 0 0 []).1.1 := ⟨_, rfl⟩
  rw [← hok]
  have HBL2 := hidden (HBL.out.sub hb2 HBL.out.lt)
  have HA2 := hidden hA; have HAK := hidden hAk; have HWS := hidden hWs; have HRR := hidden hR; have HOK := hidden hok; have HFW := hidden hfew
  have HB2 := hidden (HB1.out.trans (hb2.mono HB1.out.size))
  have hw12 := hb2.size; have hw01 := HB1.out.size
  clear hA hAk hWs hb2 HL HBL HB1 HFEW hfew hR hok
  go_wp2_with fail
  refine HN.out.mono ?_
  rintro e w3 ⟨bb, hbb, rfl, hpb, hb3⟩
  have HA3 := hidden (HA2.out.below hb3)
  have HBL3 := hidden (HBL2.out.sub hb3 HBL2.out.lt)
  have HB3 := hidden (HB2.out.trans (hb3.mono HB2.out.size))
  have hb3l : LSys w2.heap.size w3 bb (.slice none 0 0) (.slice none 0 0) ([], 0, 0, []) := ⟨hpb, LInv.zero, HA3.out.tab, hbb, (fun k hk => by simp [Value.ownBlock] at hk), fun k hk => by simp [Value.ownBlock] at hk⟩
  have HBB3 := hidden hb3l
  have HLD := hidden (forth_load (badT ++ t) HA3.out.sys HA3.out.tab (by rw [bad_size]; omega) HA3.out.inv)
  have hlb := load_bad t R.1 R.2.1 R.2.2.1 R.2.2.2 HFW.out
  have hw23 := hb3.size
  have HLO : Hid (∀ k, touch aa eva cva k → w1.heap.size ≤ k ∧ k < w2.heap.size) := hidden fun k hk => ⟨HA2.out.touch_lo hk, HA2.out.touch_lt hk⟩
  clear hpb hb3 hb3l HN HA2 HBL2 HB2
  go_wp2_with fail
  refine (show Calls _ _ #[.pointer (some ⟨aa, 0, none⟩), .string (⟨#[58, 32, 98, 97, 100, 32, 49, 32, 108, 111, 111, 112, 32]⟩ ++ t)] _ _ from HLD.out).mono ?_
  intro e w4 hpost
  obtain ⟨hh1, ⟨eva4, cva4, hA4, htch⟩, hch4⟩ := HA3.out.load (by omega) hpost
  have hR4 : (loadR (badT ++ t) R.1 R.2.1 R.2.2.1 R.2.2.2).2 = R := by
    rcases hlb with ⟨k, _, e⟩ | e
    · rw [e]
    · rw [e]
  rw [hR4] at hA4
  subst hh1
  obtain ⟨r1, hr1⟩ : ∃ r, r = (loadR (badT ++ t) R.1 R.2.1 R.2.2.1 R.2.2.2).1.1 := ⟨_, rfl⟩
  obtain ⟨r2, hr2⟩ : ∃ r, r = (loadR (badT ++ t) R.1 R.2.1 R.2.2.1 R.2.2.2).1.2 := ⟨_, rfl⟩
  rw [← hr1, ← hr2]
  have hcs : ((r1 != 5) = false ∧ (r2 != 8) = false) ∨ ((r1 != 5) = true ∧ (r1 != 2) = false ∧ 13 ≤ r2) := by
    rcases hlb with ⟨k, hk, e⟩ | e
    · right; rw [hr1, hr2, e]; exact ⟨rfl, rfl, by simp only; omega⟩
    · left; rw [hr1, hr2, e]; exact ⟨rfl, rfl⟩
  have hlo := HLO.out
  have HBL4 := hidden (HBL3.out.chg hch4 (fun e => by have := (hlo _ e).1; omega))
  have hbb3 := HBB3.out.sys.blk.lt
  have HBB4 := hidden (HBB3.out.chg hch4 hA4.tab (fun k hk e => by have := HBB3.out.touch_lo hk; have := (hlo _ e).2; omega))
  have HB4 := hidden (HB3.out.trans (hch4.toBelow HB3.out.size (fun b hb e => by have := (hlo _ e).1; omega)))
  have HA4 := hidden hA4
  have HTC : Hid (∀ k, touch aa eva4 cva4 k → k < w2.heap.size ∨ w3.heap.size ≤ k) := hidden fun k hk => (htch k hk).imp (fun e => (hlo k e).2) id
  have c2 : w4.cell? ⟨mb, 2, none⟩ = some (.string s) := HBL4.out.cell 2 _ rfl
  have hml4 := HBL4.out.lt
  have HCT := hidden (keep_cut s z w4 hsz HZ.out)
  have hw34 := hch4.size
  clear hpost hlb hA4 htch hch4 hR4 hr1 hr2 hlo HLD HA3 HBL3 HB3 HBB3
  have hok2 : okb = 0 ∨ (okb == 0) = false := by
    by_cases h : okb = 0
    · exact Or.inl h
    · exact Or.inr (by simpa using h)
  rcases hok2 with hok | hok
  case inr =>
    rcases hcs with ⟨t1, t2⟩ | ⟨t1, t2, t3⟩
    · go_wp2_with fail
      go_ret
      exact ⟨rfl, HB4.out⟩
    · go_wp2_with fail
      go_ret
      exact ⟨rfl, HB4.out⟩
  have HTWO : Hid (∀ x : Int, CutP s x → (loadR (s.extract 0 x.toNat) [] 0 0 []).1.1 = 0 ∧ loadR (s.extract x.toNat s.size) (loadR (s.extract 0 x.toNat) [] 0 0 []).2.1 (loadR (s.extract 0 x.toNat) [] 0 0 []).2.2.1 (loadR (s.extract 0 x.toNat) [] 0 0 []).2.2.2.1 (loadR (s.extract 0 x.toNat) [] 0 0 []).2.2.2.2 = loadR s [] 0 0 []) := hidden fun x hx => pieces_two HTO.out hx (by rw [← HOK.out]; exact hok)
  have hok0 : (okb == 0) = true := by simp [hok]
  clear hok
  rcases hcs with ⟨t1, t2⟩ | ⟨t1, t2, t3⟩
  all_goals
    go_wp2_with fail
    refine HCT.out.mono ?_
    rintro e w5 ⟨x, rfl, hcp, hb5⟩
    obtain ⟨tw1, tw2⟩ := HTWO.out x hcp
    obtain ⟨m, hxm, hms, _⟩ := hcp
    have hx0 : 0 ≤ x := by omega
    have hxs : x ≤ (s.size : Int) := by omega
    obtain ⟨P, hP⟩ : ∃ P, P = loadR (s.extract 0 x.toNat) [] 0 0 [] := ⟨_, rfl⟩
    rw [← hP] at tw1 tw2
    have HTW2 := hidden tw2
    have HA5 := hidden (HA4.out.below hb5); have HBB5 := hidden (HBB4.out.below hb5); have HBL5 := hidden (HBL4.out.sub hb5 HBL4.out.lt)
    have HB5 := hidden (HB4.out.trans (hb5.mono HB4.out.size))
    have c2' : w5.cell? ⟨mb, 2, none⟩ = some (.string s) := HBL5.out.cell 2 _ rfl
    have hml5 := HBL5.out.lt
    have hsz1 : (s.extract 0 x.toNat).size ≤ 1100000 := by rw [ByteArray.size_extract]; omega
    have hsz2 : (s.extract x.toNat s.size).size ≤ 1100000 := by rw [ByteArray.size_extract]; omega
    have hL1 := forth_load (s.extract 0 x.toNat) HBB5.out.sys HBB5.out.tab hsz1 HBB5.out.inv
    have hw45 := hb5.size
    have HTL : Hid (∀ k, touch aa eva4 cva4 k → k < w5.heap.size) := hidden fun k hk => HA5.out.touch_lt hk
    have HL1 := hidden hL1
    have HSZ2 := hidden hsz2
    have HHP := hidden hP
    clear hL1 hxm hms tw2 hb5 HTWO HCT HA4 HBB4 HBL4 HB4 c2 hml4 hsz1 hsz2 hP t1 t2
    go_wp2_with fail
    refine HL1.out.mono ?_
    intro e w6 hpost
    obtain ⟨hh1, ⟨evb, cvb, hB6, htch6⟩, hch6⟩ := HBB5.out.load (by omega) hpost
    simp only at hh1 hB6
    rw [← HHP.out] at hh1 hB6
    rw [tw1] at hh1
    subst hh1
    generalize P.1.2 = r3
    have hbo : ∀ k, touch bb (.slice none 0 0) (.slice none 0 0) k → k = bb := fun k hk => by
      rcases hk with e | e | e
      · exact e
      · simp [Value.ownBlock] at e
      · simp [Value.ownBlock] at e
    have HA6 := hidden (HA5.out.chg hch6 hB6.tab (fun k hk e => by have := HTC.out k hk; have := hbo k e; omega))
    have HBL6 := hidden (HBL5.out.chg hch6 (fun e => by have := hbo _ e; omega))
    have HB6 := hidden (HB5.out.trans (hch6.toBelow HB5.out.size (fun b hb e => by have := hbo _ e; omega)))
    have HBT : Hid (∀ k, touch bb evb cvb k → k = bb ∨ w5.heap.size ≤ k) := hidden fun k hk => (htch6 k hk).imp (hbo k) id
    have HBB6 := hidden hB6
    have hL2 := forth_load (s.extract x.toNat s.size) hB6.sys hB6.tab HSZ2.out hB6.inv
    have HL2 := hidden hL2
    have c2'' : w6.cell? ⟨mb, 2, none⟩ = some (.string s) := HBL6.out.cell 2 _ rfl
    have hml6 := HBL6.out.lt
    have hw56 := hch6.size
    clear hpost hB6 htch6 hch6 hbo hL2 HL1 HA5 HBB5 HBL5 HB5 c2' hml5 tw1
    go_wp2_with fail
    refine HL2.out.mono ?_
    intro e w7 hpost
    obtain ⟨hh1, ⟨evb7, cvb7, hB7, _⟩, hch7⟩ := HBB6.out.load (by omega) hpost
    rw [HTW2.out] at hh1 hB7
    rw [← HOK.out] at hh1
    rw [← HRR.out] at hB7
    subst hh1
    generalize (loadR s [] 0 0 []).1.2 = r4
    have HA7 := hidden (HA6.out.chg hch7 hB7.tab (fun k hk e => by have := HTC.out k hk; have := HTL.out k hk; have := HBT.out k e; omega))
    have HB7 := hidden (HB6.out.trans (hch7.toBelow HB6.out.size (fun b hb e => by have := HBT.out b e; omega)))
    have HSW := hidden (keep_sameWords (aa := aa) (bb := bb) (R := R) (ws := ws) ⟨⟨_, _, HA7.out.sys⟩, HA7.out.inv, HAK.out, HWS.out, HA7.out.tab⟩ ⟨⟨_, _, hB7.sys⟩, hB7.inv, HAK.out, HWS.out, hB7.tab⟩)
    clear hpost hB7 hch7 HL2 HA6 HBB6 HBL6 HB6 c2'' hml6
    go_wp2_with fail
    refine HSW.out.mono ?_
    rintro e w8 ⟨rfl, hb8⟩
    have HB8 := hidden (HB7.out.trans (hb8.mono HB7.out.size))
    clear hb8 HSW HA7 HB7
    go_wp2_with fail
    go_ret
    exact ⟨rfl, HB8.out⟩

end Go.Proofs.YtcphhbofjkenaaaGreatDoor
