import Derived.BigQuiet
import Derived.Deep.MidRow
import Derived.Test.YtcphhbofjkenaaaGreatDoorK03
import Derived.Test.YtcphhbofjkenaaaGreatDoorK27
import Derived.Test.YtcphhbofjkenaaaGreatDoorK28

namespace Go.Proofs.YtcphhbofjkenaaaGreatDoor
open Go Go.RowKit
set_option linter.unusedVariables false
set_option linter.unusedSimpArgs false
attribute [local go_sem] quietG

section
variable {B : Nat} {w w' : World} {x : RX} {code : List Int} {m m' : MS} {u u' : MW}

theorem RAt.reads {v : Int} (h : RAt B w x code m u) (hv : code[m.at_]? = some v) : ∃ g n cap, w.cell? ⟨x.mb, 36, none⟩ = some (.slice (some ⟨g, 0, none⟩) n cap) ∧ w.cell? ⟨g, m.at_, none⟩ = some (.int .i64 v) ∧ g < w.heap.size ∧ m.at_ < n ∧ n ≤ cap ∧ n ≤ 1000 ∧ n = code.length := by
  have c36 := h.c36
  have hle := h.le
  obtain ⟨g, cap, hrv, hcap, hg, hcell⟩ := h.cod
  rw [hrv] at c36
  exact ⟨g, code.length, cap, c36, hcell _ _ hv, by omega, (List.getElem?_eq_some_iff.1 hv).1, hcap, h.len.2.2.2.2.2.1, rfl⟩

set_option maxRecDepth 100000 in
set_option maxHeartbeats 8000000 in
theorem step_hind {k : Nat} (hk : k < 35) (h : RAt B w x code m u) (ht : Tab w) (hop : code[m.at_]? = some (k : Int)) {R : Int} (hh : hindP k m.stk u.vars.length = R) (hR : R ≠ 4) :
    Calls Tryz.prog 74 #[.pointer (some ⟨x.mb, 0, none⟩)] w fun e w' => e = .returned (.int .i64 R) ∧ RNext B w x code m u w' := by
  have hRb : (R != 4) = true := by simp [hR]
  have HHI := hidden (fun (w' : World) (hb : Below w.heap.size w w') => mach_hind k (by omega) (h.below hb).at_ (ht.below hb))
  rw [hh] at HHI
  obtain ⟨g, n, cap, c36, cg, hg, hn, hnc, hn1, hnl⟩ := h.reads hop
  obtain ⟨c38, _, hmb⟩ := h.c38
  have H := hidden h
  obtain ⟨q, hq⟩ : ∃ q, q = m.at_ := ⟨_, rfl⟩
  rw [← hq] at cg hn c38
  have HQ := hidden hq; have HNL := hidden hnl
  have hqi : (q : Int) < (n : Int) := by omega
  have hq0 : (0 : Int) ≤ (q : Int) := by omega
  have hqb : (q : Int) ≤ 1000 := by omega
  clear h ht hop hq hnl
  go_enter Tryz.func74, Tryz.ntmps74
  go_wp2_with fail
  go_quiet (fail)
  have hbq : Below w.heap.size w (w.drewN nq) := ⟨rfl, rfl, rfl, Nat.le_refl _, fun _ _ => rfl⟩
  obtain ⟨V, hV⟩ : ∃ V : World, V = w.drewN nq := ⟨_, rfl⟩
  rw [← hV] at hbq
  rw [← hV]
  have HV := hidden (HHI.out V hbq)
  have HBQ := hidden hbq
  clear hV hbq HHI c36 cg c38
  go_wp2_with fail
  refine HV.out.mono ?_
  rintro e w1 ⟨rfl, hb1⟩
  have HB1 := hidden (HBQ.out.trans (hb1.mono HBQ.out.size))
  clear hb1 HV
  go_wp2_with fail
  go_ret
  exact ⟨rfl, _, H.out.below HB1.out⟩

set_option maxRecDepth 100000 in
set_option maxHeartbeats 8000000 in
theorem step_two {k : Nat} (hk : k ≤ 12) (h : RAt B w x code m u) (ht : Tab w) (hop : code[m.at_]? = some (k : Int)) (hh : hindP k m.stk u.vars.length = 4) {a b : Int} {s : List Int} (hs : m.stk = b :: a :: s) (ha : Cell a) (hb : Cell b) :
    Calls Tryz.prog 74 #[.pointer (some ⟨x.mb, 0, none⟩)] w fun e w' => e = .returned (.int .i64 4) ∧ RNext B w x code { m with stk := twoP k a b :: s, at_ := m.at_ + 1 } u w' := by
  have hki : (k : Int) ≤ 12 := by omega
  have hl := h.c32.2
  rw [hs] at hl
  simp only [List.length_cons] at hl
  have HS := hidden hs
  have HTW := hidden (fun w => mach_two k hk ha hb w)
  obtain ⟨r, hr⟩ : ∃ r, r = twoP k a b := ⟨_, rfl⟩
  rw [← hr] at HTW ⊢
  clear hs hr
  have HHI := hidden (fun (w' : World) (hb : Below w.heap.size w w') => mach_hind k (by omega) (h.below hb).at_ (ht.below hb))
  rw [hh] at HHI
  obtain ⟨g, n, cap, c36, cg, hg, hn, hnc, hn1, hnl⟩ := h.reads hop
  obtain ⟨c38, _, hmb⟩ := h.c38
  have H := hidden h
  obtain ⟨q, hq⟩ : ∃ q, q = m.at_ := ⟨_, rfl⟩
  rw [← hq] at cg hn c38
  have HQ := hidden hq; have HNL := hidden hnl
  have hqi : (q : Int) < (n : Int) := by omega
  have hq0 : (0 : Int) ≤ (q : Int) := by omega
  have hqb : (q : Int) ≤ 1000 := by omega
  clear h ht hop hq hnl
  go_enter Tryz.func74, Tryz.ntmps74
  go_wp2_with fail
  go_quiet (fail)
  have hbq : Below w.heap.size w (w.drewN nq) := ⟨rfl, rfl, rfl, Nat.le_refl _, fun _ _ => rfl⟩
  obtain ⟨V, hV⟩ : ∃ V : World, V = w.drewN nq := ⟨_, rfl⟩
  rw [← hV] at hbq
  rw [← hV]
  have HV := hidden (HHI.out V hbq)
  have HBQ := hidden hbq
  clear hV hbq HHI c36 cg c38
  go_wp2_with fail
  refine HV.out.mono ?_
  rintro e w1 ⟨rfl, hb1⟩
  have hA1 := H.out.below (HBQ.out.trans (hb1.mono HBQ.out.size))
  obtain ⟨c38, f38, hm1⟩ := hA1.at_.c38
  rw [← HQ.out] at c38
  have hS := hA1.at_.setAt (q + 1) (by have := HNL.out; omega)
  obtain ⟨X, hX⟩ : ∃ X : World, X = w1.setCell ⟨x.mb, 38, none⟩ (.int .i64 ((q : Int) + 1)) := ⟨_, rfl⟩
  have hcast : (((q + 1 : Nat) : Int)) = (q : Int) + 1 := by omega
  rw [hcast, ← hX] at hS
  have HN := hidden (hA1.trans hS); have HX := hidden hX
  have hmX := hS.at_.c38.2.2
  clear hb1 HV hA1 hS hX hcast
  go_upto_region 7 with fail
  rw [← HX.out]
  clear c38 f38
  have hD := HN.out.at_.below (Below.drew (Below.refl X.heap.size X))
  have HD := hidden hD
  have hne : Nonempty {w' : World // True} := ⟨⟨w, trivial⟩⟩
  clear hD
  rw [HQ.out] at HN HD
  go_upto_region 8 with fail
  refine wp_region_order (C := OneOf fun _ => True) 8 [0, 1, 2, 4, 5, 6, 3, 7] [3, 7] ⟨X.drew, trivial⟩ (by kernel_rfl) (by kernel_rfl) rfl ?_
  repeat (refine wpT_step rfl rfl (fun K hK => ?_); go_simp; refine hK _ ?_; clear hK K)
  refine wpT_call1 rfl rfl 108 #[.pointer (some ⟨x.mb, 0, none⟩)] (by go_simp) ((HD.out.at_.take HS.out).mono ?_)
  rintro e w2 ⟨rfl, hn2⟩
  refine ⟨_, rfl, trivial, ?_⟩
  refine wpT_call1 rfl rfl 108 #[.pointer (some ⟨x.mb, 0, none⟩)] (by go_simp) ((hn2.at_.take rfl).mono ?_)
  rintro e w3 ⟨rfl, hn3⟩
  refine ⟨_, rfl, trivial, wpT_end ?_⟩
  intro w' hw'
  rw [show w' = w3 from hw']
  have HN3 := hidden (((HN.out.trans HD.out).trans hn2).trans hn3)
  have hD3 := hn3.at_.below (Below.drew (Below.refl w3.heap.size w3))
  have HD3 := hidden hD3
  clear hw' w' hn2 hn3 hD3
  simp only [List.drop_succ_cons, List.drop_zero]
  go_upto_region 9 with fail
  refine wp_region_turns (C := OneOf fun _ => True) 8 [6, 7] ⟨w3.drew, trivial⟩ (by kernel_rfl) (by kernel_rfl) rfl ?_
  rw [show List.range 8 = [0, 1, 2, 3, 4, 5, 6, 7] from rfl]
  repeat (refine wpT_step rfl rfl (fun K hK => ?_); go_simp; refine hK _ ?_; clear hK K)
  refine wpT_call1 rfl rfl 109 #[.int .i64 k, .int .i64 a, .int .i64 b] (by go_simp) ((HTW.out _).mono ?_)
  rintro e w4 ⟨rfl, rfl⟩
  refine ⟨_, rfl, trivial, ?_⟩
  refine wpT_turn1 rfl rfl (.slice (some ⟨w3.drew.heap.size, 0, none⟩) 1 1) (w3.drew.alloc (.cells #[.int .i64 r] 3 (0, 0))) trivial (Or.inl (by go_simp)) ?_
  refine wpT_end ?_
  intro w' hw'
  rw [show w' = w3.drew.alloc (.cells #[.int .i64 r] 3 (0, 0)) from hw']
  clear hw' w' hne
  have HPT := hidden (RAt.puts [r] HD3.out.at_ (by simp only; omega) (by simp only [List.length_cons, List.length_nil]; omega))
  simp only [List.drop_succ_cons, List.drop_zero]
  go_wp2_with fail
  refine HPT.out.mono ?_
  rintro e wz ⟨rfl, hz⟩
  have HZ := hidden ((HN3.out.trans HD3.out).trans hz)
  clear hz HPT
  go_wp2_with fail
  go_ret
  exact ⟨rfl, _, HZ.out⟩

set_option maxRecDepth 100000 in
set_option maxHeartbeats 8000000 in
theorem step_one {k : Nat} (hk1 : 13 ≤ k) (hk : k ≤ 15) (h : RAt B w x code m u) (ht : Tab w) (hop : code[m.at_]? = some (k : Int)) (hh : hindP k m.stk u.vars.length = 4) {a : Int} {s : List Int} (hs : m.stk = a :: s) (ha : Cell a) :
    Calls Tryz.prog 74 #[.pointer (some ⟨x.mb, 0, none⟩)] w fun e w' => e = .returned (.int .i64 4) ∧ RNext B w x code { m with stk := oneP k a :: s, at_ := m.at_ + 1 } u w' := by
  have hki : (k : Int) ≤ 15 := by omega
  have hki2 : ¬ (k : Int) ≤ 12 := by omega
  have hl := h.c32.2
  rw [hs] at hl
  simp only [List.length_cons] at hl
  have HS := hidden hs
  have HTW := hidden (fun w => mach_one k hk1 hk ha w)
  obtain ⟨r, hr⟩ : ∃ r, r = oneP k a := ⟨_, rfl⟩
  rw [← hr] at HTW ⊢
  clear hs hr
  have HHI := hidden (fun (w' : World) (hb : Below w.heap.size w w') => mach_hind k (by omega) (h.below hb).at_ (ht.below hb))
  rw [hh] at HHI
  obtain ⟨g, n, cap, c36, cg, hg, hn, hnc, hn1, hnl⟩ := h.reads hop
  obtain ⟨c38, _, hmb⟩ := h.c38
  have H := hidden h
  obtain ⟨q, hq⟩ : ∃ q, q = m.at_ := ⟨_, rfl⟩
  rw [← hq] at cg hn c38
  have HQ := hidden hq; have HNL := hidden hnl
  have hqi : (q : Int) < (n : Int) := by omega
  have hq0 : (0 : Int) ≤ (q : Int) := by omega
  have hqb : (q : Int) ≤ 1000 := by omega
  clear h ht hop hq hnl
  go_enter Tryz.func74, Tryz.ntmps74
  go_wp2_with fail
  go_quiet (fail)
  have hbq : Below w.heap.size w (w.drewN nq) := ⟨rfl, rfl, rfl, Nat.le_refl _, fun _ _ => rfl⟩
  obtain ⟨V, hV⟩ : ∃ V : World, V = w.drewN nq := ⟨_, rfl⟩
  rw [← hV] at hbq
  rw [← hV]
  have HV := hidden (HHI.out V hbq)
  have HBQ := hidden hbq
  clear hV hbq HHI c36 cg c38
  go_wp2_with fail
  refine HV.out.mono ?_
  rintro e w1 ⟨rfl, hb1⟩
  have hA1 := H.out.below (HBQ.out.trans (hb1.mono HBQ.out.size))
  obtain ⟨c38, f38, hm1⟩ := hA1.at_.c38
  rw [← HQ.out] at c38
  have hS := hA1.at_.setAt (q + 1) (by have := HNL.out; omega)
  obtain ⟨X, hX⟩ : ∃ X : World, X = w1.setCell ⟨x.mb, 38, none⟩ (.int .i64 ((q : Int) + 1)) := ⟨_, rfl⟩
  have hcast : (((q + 1 : Nat) : Int)) = (q : Int) + 1 := by omega
  rw [hcast, ← hX] at hS
  have HN := hidden (hA1.trans hS); have HX := hidden hX
  have hmX := hS.at_.c38.2.2
  clear hb1 HV hA1 hS hX hcast
  go_upto_region 7 with fail
  rw [← HX.out]
  clear c38 f38
  have hD := HN.out.at_.below (Below.drew (Below.refl X.heap.size X))
  have HD := hidden hD
  have hne : Nonempty {w' : World // True} := ⟨⟨w, trivial⟩⟩
  clear hD
  rw [HQ.out] at HN HD
  go_upto_region 11 with fail
  refine wp_region_turns (C := OneOf fun _ => True) 10 [7, 8, 9] ⟨X.drew, trivial⟩ (by kernel_rfl) (by kernel_rfl) rfl ?_
  rw [show List.range 10 = [0, 1, 2, 3, 4, 5, 6, 7, 8, 9] from rfl]
  repeat (refine wpT_step rfl rfl (fun K hK => ?_); go_simp; refine hK _ ?_; clear hK K)
  refine wpT_call1 rfl rfl 108 #[.pointer (some ⟨x.mb, 0, none⟩)] (by go_simp) ((HD.out.at_.take HS.out).mono ?_)
  rintro e w3 ⟨rfl, hn3⟩
  refine ⟨_, rfl, trivial, ?_⟩
  refine wpT_call1 rfl rfl 110 #[.int .i64 k, .int .i64 a] (by go_simp) ((HTW.out _).mono ?_)
  rintro e w4 ⟨rfl, rfl⟩
  refine ⟨_, rfl, trivial, ?_⟩
  refine wpT_turn1 rfl rfl (.slice (some ⟨w4.heap.size, 0, none⟩) 1 1) (w4.alloc (.cells #[.int .i64 r] 3 (0, 0))) trivial (Or.inl (by go_simp)) ?_
  refine wpT_end ?_
  intro w' hw'
  rw [show w' = w4.alloc (.cells #[.int .i64 r] 3 (0, 0)) from hw']
  clear hw' w' hne
  have HN3 := hidden ((HN.out.trans HD.out).trans hn3)
  have HPT := hidden (RAt.puts [r] hn3.at_ (by simp only; omega) (by simp only [List.length_cons, List.length_nil]; omega))
  clear hn3
  simp only [List.drop_succ_cons, List.drop_zero]
  go_wp2_with fail
  refine HPT.out.mono ?_
  rintro e wz ⟨rfl, hz⟩
  have HZ := hidden (HN3.out.trans hz)
  clear hz HPT
  go_wp2_with fail
  go_ret
  exact ⟨rfl, _, HZ.out⟩

set_option maxRecDepth 100000 in
set_option maxHeartbeats 8000000 in
theorem step_arr {k : Nat} (hk1 : 16 ≤ k) (hk : k ≤ 22) (h : RAt B w x code m u) (ht : Tab w) (hop : code[m.at_]? = some (k : Int)) (hh : hindP k m.stk u.vars.length = 4) (hin : ∀ w1, RAt B w1 x code { m with at_ := m.at_ + 1 } u → Calls Tryz.prog 111 #[.pointer (some ⟨x.mb, 0, none⟩), .int .i64 k] w1 fun e w2 => e = .returned (.tuple #[]) ∧ RNext B w1 x code m' u' w2) :
    Calls Tryz.prog 74 #[.pointer (some ⟨x.mb, 0, none⟩)] w fun e w' => e = .returned (.int .i64 4) ∧ RNext B w x code m' u' w' := by
  have hki : (k : Int) ≤ 22 := by omega
  have hki2 : ¬ (k : Int) ≤ 12 := by omega
  have hki3 : ¬ (k : Int) ≤ 15 := by omega
  have HIN := hidden hin
  clear hin
  have HHI := hidden (fun (w' : World) (hb : Below w.heap.size w w') => mach_hind k (by omega) (h.below hb).at_ (ht.below hb))
  rw [hh] at HHI
  obtain ⟨g, n, cap, c36, cg, hg, hn, hnc, hn1, hnl⟩ := h.reads hop
  obtain ⟨c38, _, hmb⟩ := h.c38
  have H := hidden h
  obtain ⟨q, hq⟩ : ∃ q, q = m.at_ := ⟨_, rfl⟩
  rw [← hq] at cg hn c38
  have HQ := hidden hq; have HNL := hidden hnl
  have hqi : (q : Int) < (n : Int) := by omega
  have hq0 : (0 : Int) ≤ (q : Int) := by omega
  have hqb : (q : Int) ≤ 1000 := by omega
  clear h ht hop hq hnl
  go_enter Tryz.func74, Tryz.ntmps74
  go_wp2_with fail
  go_quiet (fail)
  have hbq : Below w.heap.size w (w.drewN nq) := ⟨rfl, rfl, rfl, Nat.le_refl _, fun _ _ => rfl⟩
  obtain ⟨V, hV⟩ : ∃ V : World, V = w.drewN nq := ⟨_, rfl⟩
  rw [← hV] at hbq
  rw [← hV]
  have HV := hidden (HHI.out V hbq)
  have HBQ := hidden hbq
  clear hV hbq HHI c36 cg c38
  go_wp2_with fail
  refine HV.out.mono ?_
  rintro e w1 ⟨rfl, hb1⟩
  have hA1 := H.out.below (HBQ.out.trans (hb1.mono HBQ.out.size))
  obtain ⟨c38, f38, hm1⟩ := hA1.at_.c38
  rw [← HQ.out] at c38
  have hS := hA1.at_.setAt (q + 1) (by have := HNL.out; omega)
  obtain ⟨X, hX⟩ : ∃ X : World, X = w1.setCell ⟨x.mb, 38, none⟩ (.int .i64 ((q : Int) + 1)) := ⟨_, rfl⟩
  have hcast : (((q + 1 : Nat) : Int)) = (q : Int) + 1 := by omega
  rw [hcast, ← hX] at hS
  have HN := hidden (hA1.trans hS); have HX := hidden hX
  have hmX := hS.at_.c38.2.2
  clear hb1 HV hA1 hS hX hcast
  go_upto_region 7 with fail
  rw [← HX.out]
  clear c38 f38
  rw [HQ.out] at HN
  have HI := hidden (HIN.out X HN.out.at_)
  clear HIN
  go_wp2_with fail
  refine HI.out.mono ?_
  rintro e w2 ⟨rfl, y, hy⟩
  have HZ := hidden (HN.out.trans hy)
  clear hy HI
  go_wp2_with fail
  go_ret
  exact ⟨rfl, _, HZ.out⟩

set_option maxRecDepth 100000 in
set_option maxHeartbeats 8000000 in
theorem step_deal {k : Nat} (hk1 : 23 ≤ k) (hk : k ≤ 26) (h : RAt B w x code m u) (ht : Tab w) (hop : code[m.at_]? = some (k : Int)) (hh : hindP k m.stk u.vars.length = 4) (hin : ∀ w1, RAt B w1 x code { m with at_ := m.at_ + 1 } u → Calls Tryz.prog 112 #[.pointer (some ⟨x.mb, 0, none⟩), .int .i64 k] w1 fun e w2 => e = .returned (.tuple #[]) ∧ RNext B w1 x code m' u' w2) :
    Calls Tryz.prog 74 #[.pointer (some ⟨x.mb, 0, none⟩)] w fun e w' => e = .returned (.int .i64 4) ∧ RNext B w x code m' u' w' := by
  have hki : (k : Int) ≤ 26 := by omega
  have hki2 : ¬ (k : Int) ≤ 12 := by omega
  have hki3 : ¬ (k : Int) ≤ 15 := by omega
  have hki4 : ¬ (k : Int) ≤ 22 := by omega
  have HIN := hidden hin
  clear hin
  have HHI := hidden (fun (w' : World) (hb : Below w.heap.size w w') => mach_hind k (by omega) (h.below hb).at_ (ht.below hb))
  rw [hh] at HHI
  obtain ⟨g, n, cap, c36, cg, hg, hn, hnc, hn1, hnl⟩ := h.reads hop
  obtain ⟨c38, _, hmb⟩ := h.c38
  have H := hidden h
  obtain ⟨q, hq⟩ : ∃ q, q = m.at_ := ⟨_, rfl⟩
  rw [← hq] at cg hn c38
  have HQ := hidden hq; have HNL := hidden hnl
  have hqi : (q : Int) < (n : Int) := by omega
  have hq0 : (0 : Int) ≤ (q : Int) := by omega
  have hqb : (q : Int) ≤ 1000 := by omega
  clear h ht hop hq hnl
  go_enter Tryz.func74, Tryz.ntmps74
  go_wp2_with fail
  go_quiet (fail)
  have hbq : Below w.heap.size w (w.drewN nq) := ⟨rfl, rfl, rfl, Nat.le_refl _, fun _ _ => rfl⟩
  obtain ⟨V, hV⟩ : ∃ V : World, V = w.drewN nq := ⟨_, rfl⟩
  rw [← hV] at hbq
  rw [← hV]
  have HV := hidden (HHI.out V hbq)
  have HBQ := hidden hbq
  clear hV hbq HHI c36 cg c38
  go_wp2_with fail
  refine HV.out.mono ?_
  rintro e w1 ⟨rfl, hb1⟩
  have hA1 := H.out.below (HBQ.out.trans (hb1.mono HBQ.out.size))
  obtain ⟨c38, f38, hm1⟩ := hA1.at_.c38
  rw [← HQ.out] at c38
  have hS := hA1.at_.setAt (q + 1) (by have := HNL.out; omega)
  obtain ⟨X, hX⟩ : ∃ X : World, X = w1.setCell ⟨x.mb, 38, none⟩ (.int .i64 ((q : Int) + 1)) := ⟨_, rfl⟩
  have hcast : (((q + 1 : Nat) : Int)) = (q : Int) + 1 := by omega
  rw [hcast, ← hX] at hS
  have HN := hidden (hA1.trans hS); have HX := hidden hX
  have hmX := hS.at_.c38.2.2
  clear hb1 HV hA1 hS hX hcast
  go_upto_region 7 with fail
  rw [← HX.out]
  clear c38 f38
  rw [HQ.out] at HN
  have HI := hidden (HIN.out X HN.out.at_)
  clear HIN
  go_wp2_with fail
  refine HI.out.mono ?_
  rintro e w2 ⟨rfl, y, hy⟩
  have HZ := hidden (HN.out.trans hy)
  clear hy HI
  go_wp2_with fail
  go_ret
  exact ⟨rfl, _, HZ.out⟩

set_option maxRecDepth 100000 in
set_option maxHeartbeats 8000000 in
theorem step_jump {k : Nat} (hk1 : 29 ≤ k) (hk : k ≤ 33) (h : RAt B w x code m u) (ht : Tab w) (hop : code[m.at_]? = some (k : Int)) (hh : hindP k m.stk u.vars.length = 4) (hin : ∀ w1, RAt B w1 x code { m with at_ := m.at_ + 1 } u → Calls Tryz.prog 116 #[.pointer (some ⟨x.mb, 0, none⟩), .int .i64 k] w1 fun e w2 => e = .returned (.tuple #[]) ∧ RNext B w1 x code m' u' w2) :
    Calls Tryz.prog 74 #[.pointer (some ⟨x.mb, 0, none⟩)] w fun e w' => e = .returned (.int .i64 4) ∧ RNext B w x code m' u' w' := by
  have hki : ¬ (k : Int) ≤ 26 := by omega
  have hki2 : ¬ (k : Int) ≤ 12 := by omega
  have hki3 : ¬ (k : Int) ≤ 15 := by omega
  have hki4 : ¬ (k : Int) ≤ 22 := by omega
  have hki5 : ((k : Int) == 27) = false := by simp; omega
  have hki6 : ((k : Int) == 28) = false := by simp; omega
  have hki7 : ((k : Int) == 34) = false := by simp; omega
  have HIN := hidden hin
  clear hin
  have HHI := hidden (fun (w' : World) (hb : Below w.heap.size w w') => mach_hind k (by omega) (h.below hb).at_ (ht.below hb))
  rw [hh] at HHI
  obtain ⟨g, n, cap, c36, cg, hg, hn, hnc, hn1, hnl⟩ := h.reads hop
  obtain ⟨c38, _, hmb⟩ := h.c38
  have H := hidden h
  obtain ⟨q, hq⟩ : ∃ q, q = m.at_ := ⟨_, rfl⟩
  rw [← hq] at cg hn c38
  have HQ := hidden hq; have HNL := hidden hnl
  have hqi : (q : Int) < (n : Int) := by omega
  have hq0 : (0 : Int) ≤ (q : Int) := by omega
  have hqb : (q : Int) ≤ 1000 := by omega
  clear h ht hop hq hnl
  go_enter Tryz.func74, Tryz.ntmps74
  go_wp2_with fail
  go_quiet (fail)
  have hbq : Below w.heap.size w (w.drewN nq) := ⟨rfl, rfl, rfl, Nat.le_refl _, fun _ _ => rfl⟩
  obtain ⟨V, hV⟩ : ∃ V : World, V = w.drewN nq := ⟨_, rfl⟩
  rw [← hV] at hbq
  rw [← hV]
  have HV := hidden (HHI.out V hbq)
  have HBQ := hidden hbq
  clear hV hbq HHI c36 cg c38
  go_wp2_with fail
  refine HV.out.mono ?_
  rintro e w1 ⟨rfl, hb1⟩
  have hA1 := H.out.below (HBQ.out.trans (hb1.mono HBQ.out.size))
  obtain ⟨c38, f38, hm1⟩ := hA1.at_.c38
  rw [← HQ.out] at c38
  have hS := hA1.at_.setAt (q + 1) (by have := HNL.out; omega)
  obtain ⟨X, hX⟩ : ∃ X : World, X = w1.setCell ⟨x.mb, 38, none⟩ (.int .i64 ((q : Int) + 1)) := ⟨_, rfl⟩
  have hcast : (((q + 1 : Nat) : Int)) = (q : Int) + 1 := by omega
  rw [hcast, ← hX] at hS
  have HN := hidden (hA1.trans hS); have HX := hidden hX
  have hmX := hS.at_.c38.2.2
  clear hb1 HV hA1 hS hX hcast
  go_upto_region 7 with fail
  rw [← HX.out]
  clear c38 f38
  rw [HQ.out] at HN
  have HI := hidden (HIN.out X HN.out.at_)
  clear HIN
  go_wp2_with fail
  refine HI.out.mono ?_
  rintro e w2 ⟨rfl, y, hy⟩
  have HZ := hidden (HN.out.trans hy)
  clear hy HI
  go_wp2_with fail
  go_ret
  exact ⟨rfl, _, HZ.out⟩

set_option maxRecDepth 100000 in
set_option maxHeartbeats 8000000 in
theorem step_index (h : RAt B w x code m u) (ht : Tab w) (hop : code[m.at_]? = some (27 : Int)) (hh : hindP 27 m.stk u.vars.length = 4) {l : List (Int × Int)} {a b : Int} (hs : m.loops = l ++ [(a, b)]) (hl : m.stk.length < 32) :
    Calls Tryz.prog 74 #[.pointer (some ⟨x.mb, 0, none⟩)] w fun e w' => e = .returned (.int .i64 4) ∧ RNext B w x code { m with stk := a :: m.stk, at_ := m.at_ + 1 } u w' := by
  have HS := hidden hs
  clear hs
  have HHI := hidden (fun (w' : World) (hb : Below w.heap.size w w') => mach_hind 27 (by omega) (h.below hb).at_ (ht.below hb))
  rw [hh] at HHI
  obtain ⟨g, n, cap, c36, cg, hg, hn, hnc, hn1, hnl⟩ := h.reads hop
  obtain ⟨c38, _, hmb⟩ := h.c38
  have H := hidden h
  obtain ⟨q, hq⟩ : ∃ q, q = m.at_ := ⟨_, rfl⟩
  rw [← hq] at cg hn c38
  have HQ := hidden hq; have HNL := hidden hnl
  have hqi : (q : Int) < (n : Int) := by omega
  have hq0 : (0 : Int) ≤ (q : Int) := by omega
  have hqb : (q : Int) ≤ 1000 := by omega
  clear h ht hop hq hnl
  go_enter Tryz.func74, Tryz.ntmps74
  go_wp2_with fail
  go_quiet (fail)
  have hbq : Below w.heap.size w (w.drewN nq) := ⟨rfl, rfl, rfl, Nat.le_refl _, fun _ _ => rfl⟩
  obtain ⟨V, hV⟩ : ∃ V : World, V = w.drewN nq := ⟨_, rfl⟩
  rw [← hV] at hbq
  rw [← hV]
  have HV := hidden (HHI.out V hbq)
  have HBQ := hidden hbq
  clear hV hbq HHI c36 cg c38
  go_wp2_with fail
  refine HV.out.mono ?_
  rintro e w1 ⟨rfl, hb1⟩
  have hA1 := H.out.below (HBQ.out.trans (hb1.mono HBQ.out.size))
  obtain ⟨c38, f38, hm1⟩ := hA1.at_.c38
  rw [← HQ.out] at c38
  have hS := hA1.at_.setAt (q + 1) (by have := HNL.out; omega)
  obtain ⟨X, hX⟩ : ∃ X : World, X = w1.setCell ⟨x.mb, 38, none⟩ (.int .i64 ((q : Int) + 1)) := ⟨_, rfl⟩
  have hcast : (((q + 1 : Nat) : Int)) = (q : Int) + 1 := by omega
  rw [hcast, ← hX] at hS
  have HN := hidden (hA1.trans hS); have HX := hidden hX
  have hmX := hS.at_.c38.2.2
  clear hb1 HV hA1 hS hX hcast
  go_upto_region 7 with fail
  rw [← HX.out]
  clear c38 f38
  have hD := HN.out.at_.below (Below.drew (Below.refl X.heap.size X))
  have HD := hidden hD
  have hne : Nonempty {w' : World // True} := ⟨⟨w, trivial⟩⟩
  clear hD
  rw [HQ.out] at HN HD
  go_upto_region 17 with fail
  refine wp_region_turns (C := OneOf fun _ => True) 8 [6, 7] ⟨X.drew, trivial⟩ (by kernel_rfl) (by kernel_rfl) rfl ?_
  rw [show List.range 8 = [0, 1, 2, 3, 4, 5, 6, 7] from rfl]
  repeat (refine wpT_step rfl rfl (fun K hK => ?_); go_simp; refine hK _ ?_; clear hK K)
  refine wpT_call1 rfl rfl 113 #[.pointer (some ⟨x.mb, 33, none⟩)] (by go_simp) ((HD.out.at_.number HS.out).mono ?_)
  rintro e w4 ⟨rfl, hb4⟩
  have hn3 := HD.out.at_.below hb4
  refine ⟨_, rfl, trivial, ?_⟩
  refine wpT_turn1 rfl rfl (.slice (some ⟨w4.heap.size, 0, none⟩) 1 1) (w4.alloc (.cells #[.int .i64 a] 3 (0, 0))) trivial (Or.inl (by go_simp)) ?_
  refine wpT_end ?_
  intro w' hw'
  rw [show w' = w4.alloc (.cells #[.int .i64 a] 3 (0, 0)) from hw']
  clear hw' w' hne
  have HN3 := hidden ((HN.out.trans HD.out).trans hn3)
  have HPT := hidden (RAt.puts [a] hn3.at_ hl (by simp only [List.length_cons, List.length_nil]; omega))
  clear hn3 hb4
  simp only [List.drop_succ_cons, List.drop_zero]
  go_wp2_with fail
  refine HPT.out.mono ?_
  rintro e wz ⟨rfl, hz⟩
  have HZ := hidden (HN3.out.trans hz)
  clear hz HPT
  go_wp2_with fail
  go_ret
  exact ⟨rfl, _, HZ.out⟩

set_option maxRecDepth 100000 in
set_option maxHeartbeats 8000000 in
theorem step_push (h : RAt B w x code m u) (ht : Tab w) (hop : code[m.at_]? = some (28 : Int)) (hh : hindP 28 m.stk u.vars.length = 4) {a : Int} (hs : code[m.at_ + 1]? = some a) (hl : m.stk.length < 32) :
    Calls Tryz.prog 74 #[.pointer (some ⟨x.mb, 0, none⟩)] w fun e w' => e = .returned (.int .i64 4) ∧ RNext B w x code { m with stk := a :: m.stk, at_ := m.at_ + 2 } u w' := by
  have HS := hidden hs
  clear hs
  have HHI := hidden (fun (w' : World) (hb : Below w.heap.size w w') => mach_hind 28 (by omega) (h.below hb).at_ (ht.below hb))
  rw [hh] at HHI
  obtain ⟨g, n, cap, c36, cg, hg, hn, hnc, hn1, hnl⟩ := h.reads hop
  obtain ⟨c38, _, hmb⟩ := h.c38
  have H := hidden h
  obtain ⟨q, hq⟩ : ∃ q, q = m.at_ := ⟨_, rfl⟩
  rw [← hq] at cg hn c38
  have HQ := hidden hq; have HNL := hidden hnl
  have hqi : (q : Int) < (n : Int) := by omega
  have hq0 : (0 : Int) ≤ (q : Int) := by omega
  have hqb : (q : Int) ≤ 1000 := by omega
  clear h ht hop hq hnl
  go_enter Tryz.func74, Tryz.ntmps74
  go_wp2_with fail
  go_quiet (fail)
  have hbq : Below w.heap.size w (w.drewN nq) := ⟨rfl, rfl, rfl, Nat.le_refl _, fun _ _ => rfl⟩
  obtain ⟨V, hV⟩ : ∃ V : World, V = w.drewN nq := ⟨_, rfl⟩
  rw [← hV] at hbq
  rw [← hV]
  have HV := hidden (HHI.out V hbq)
  have HBQ := hidden hbq
  clear hV hbq HHI c36 cg c38
  go_wp2_with fail
  refine HV.out.mono ?_
  rintro e w1 ⟨rfl, hb1⟩
  have hA1 := H.out.below (HBQ.out.trans (hb1.mono HBQ.out.size))
  obtain ⟨c38, f38, hm1⟩ := hA1.at_.c38
  rw [← HQ.out] at c38
  have hS := hA1.at_.setAt (q + 1) (by have := HNL.out; omega)
  obtain ⟨X, hX⟩ : ∃ X : World, X = w1.setCell ⟨x.mb, 38, none⟩ (.int .i64 ((q : Int) + 1)) := ⟨_, rfl⟩
  have hcast : (((q + 1 : Nat) : Int)) = (q : Int) + 1 := by omega
  rw [hcast, ← hX] at hS
  have HN := hidden (hA1.trans hS); have HX := hidden hX
  have hmX := hS.at_.c38.2.2
  clear hb1 HV hA1 hS hX hcast
  go_upto_region 7 with fail
  rw [← HX.out]
  clear c38 f38
  have hD := HN.out.at_.below (Below.drew (Below.refl X.heap.size X))
  have HD := hidden hD
  have hne : Nonempty {w' : World // True} := ⟨⟨w, trivial⟩⟩
  clear hD
  rw [HQ.out] at HN HD
  go_upto_region 19 with fail
  refine wp_region_turns (C := OneOf fun _ => True) 6 [4, 5] ⟨X.drew, trivial⟩ (by kernel_rfl) (by kernel_rfl) rfl ?_
  rw [show List.range 6 = [0, 1, 2, 3, 4, 5] from rfl]
  repeat (refine wpT_step rfl rfl (fun K hK => ?_); go_simp; refine hK _ ?_; clear hK K)
  refine wpT_call1 rfl rfl 114 #[.pointer (some ⟨x.mb, 0, none⟩)] (by go_simp) ((HD.out.at_.operand HS.out).mono ?_)
  rintro e w4 ⟨rfl, hn3⟩
  refine ⟨_, rfl, trivial, ?_⟩
  refine wpT_turn1 rfl rfl (.slice (some ⟨w4.heap.size, 0, none⟩) 1 1) (w4.alloc (.cells #[.int .i64 a] 3 (0, 0))) trivial (Or.inl (by go_simp)) ?_
  refine wpT_end ?_
  intro w' hw'
  rw [show w' = w4.alloc (.cells #[.int .i64 a] 3 (0, 0)) from hw']
  clear hw' w' hne
  have HN3 := hidden ((HN.out.trans HD.out).trans hn3)
  have HPT := hidden (RAt.puts [a] hn3.at_ hl (by simp only [List.length_cons, List.length_nil]; omega))
  clear hn3
  simp only [List.drop_succ_cons, List.drop_zero]
  go_wp2_with fail
  refine HPT.out.mono ?_
  rintro e wz ⟨rfl, hz⟩
  have HZ := hidden (HN3.out.trans hz)
  clear hz HPT
  go_wp2_with fail
  go_ret
  exact ⟨rfl, _, HZ.out⟩

set_option maxRecDepth 100000 in
set_option maxHeartbeats 8000000 in
theorem step_end0 (h : RAt B w x code m u) (ht : Tab w) (hop : code[m.at_]? = some (34 : Int)) (hh : hindP 34 m.stk u.vars.length = 4) (hc : m.calls = []) :
    Calls Tryz.prog 74 #[.pointer (some ⟨x.mb, 0, none⟩)] w fun e w' => e = .returned (.int .i64 0) ∧ RNext B w x code { m with at_ := m.at_ + 1 } u w' := by
  have HCC := hidden hc
  clear hc
  have HHI := hidden (fun (w' : World) (hb : Below w.heap.size w w') => mach_hind 34 (by omega) (h.below hb).at_ (ht.below hb))
  rw [hh] at HHI
  obtain ⟨g, n, cap, c36, cg, hg, hn, hnc, hn1, hnl⟩ := h.reads hop
  obtain ⟨c38, _, hmb⟩ := h.c38
  have H := hidden h
  obtain ⟨q, hq⟩ : ∃ q, q = m.at_ := ⟨_, rfl⟩
  rw [← hq] at cg hn c38
  have HQ := hidden hq; have HNL := hidden hnl
  have hqi : (q : Int) < (n : Int) := by omega
  have hq0 : (0 : Int) ≤ (q : Int) := by omega
  have hqb : (q : Int) ≤ 1000 := by omega
  clear h ht hop hq hnl
  go_enter Tryz.func74, Tryz.ntmps74
  go_wp2_with fail
  go_quiet (fail)
  have hbq : Below w.heap.size w (w.drewN nq) := ⟨rfl, rfl, rfl, Nat.le_refl _, fun _ _ => rfl⟩
  obtain ⟨V, hV⟩ : ∃ V : World, V = w.drewN nq := ⟨_, rfl⟩
  rw [← hV] at hbq
  rw [← hV]
  have HV := hidden (HHI.out V hbq)
  have HBQ := hidden hbq
  clear hV hbq HHI c36 cg c38
  go_wp2_with fail
  refine HV.out.mono ?_
  rintro e w1 ⟨rfl, hb1⟩
  have hA1 := H.out.below (HBQ.out.trans (hb1.mono HBQ.out.size))
  obtain ⟨c38, f38, hm1⟩ := hA1.at_.c38
  rw [← HQ.out] at c38
  have hS := hA1.at_.setAt (q + 1) (by have := HNL.out; omega)
  obtain ⟨X, hX⟩ : ∃ X : World, X = w1.setCell ⟨x.mb, 38, none⟩ (.int .i64 ((q : Int) + 1)) := ⟨_, rfl⟩
  have hcast : (((q + 1 : Nat) : Int)) = (q : Int) + 1 := by omega
  rw [hcast, ← hX] at hS
  have HN := hidden (hA1.trans hS); have HX := hidden hX
  have hmX := hS.at_.c38.2.2
  clear hb1 HV hA1 hS hX hcast
  go_upto_region 7 with fail
  rw [← HX.out]
  clear c38 f38
  rw [HQ.out] at HN
  have HI := hidden (mach_leave0 HN.out.at_ HCC.out)
  go_wp2_with fail
  refine HI.out.mono ?_
  rintro e w2 ⟨rfl, rfl⟩
  clear HI
  go_wp2_with fail
  go_ret
  exact ⟨rfl, _, HN.out⟩

set_option maxRecDepth 100000 in
set_option maxHeartbeats 8000000 in
theorem step_end (h : RAt B w x code m u) (ht : Tab w) (hop : code[m.at_]? = some (34 : Int)) (hh : hindP 34 m.stk u.vars.length = 4) {l : List Int} {p : Nat} (hc : m.calls = l ++ [(p : Int)]) (hp : p ≤ code.length) :
    Calls Tryz.prog 74 #[.pointer (some ⟨x.mb, 0, none⟩)] w fun e w' => e = .returned (.int .i64 4) ∧ RNext B w x code { m with calls := l, at_ := p } u w' := by
  have HCC := hidden hc
  clear hc
  have HHI := hidden (fun (w' : World) (hb : Below w.heap.size w w') => mach_hind 34 (by omega) (h.below hb).at_ (ht.below hb))
  rw [hh] at HHI
  obtain ⟨g, n, cap, c36, cg, hg, hn, hnc, hn1, hnl⟩ := h.reads hop
  obtain ⟨c38, _, hmb⟩ := h.c38
  have H := hidden h
  obtain ⟨q, hq⟩ : ∃ q, q = m.at_ := ⟨_, rfl⟩
  rw [← hq] at cg hn c38
  have HQ := hidden hq; have HNL := hidden hnl
  have hqi : (q : Int) < (n : Int) := by omega
  have hq0 : (0 : Int) ≤ (q : Int) := by omega
  have hqb : (q : Int) ≤ 1000 := by omega
  clear h ht hop hq hnl
  go_enter Tryz.func74, Tryz.ntmps74
  go_wp2_with fail
  go_quiet (fail)
  have hbq : Below w.heap.size w (w.drewN nq) := ⟨rfl, rfl, rfl, Nat.le_refl _, fun _ _ => rfl⟩
  obtain ⟨V, hV⟩ : ∃ V : World, V = w.drewN nq := ⟨_, rfl⟩
  rw [← hV] at hbq
  rw [← hV]
  have HV := hidden (HHI.out V hbq)
  have HBQ := hidden hbq
  clear hV hbq HHI c36 cg c38
  go_wp2_with fail
  refine HV.out.mono ?_
  rintro e w1 ⟨rfl, hb1⟩
  have hA1 := H.out.below (HBQ.out.trans (hb1.mono HBQ.out.size))
  obtain ⟨c38, f38, hm1⟩ := hA1.at_.c38
  rw [← HQ.out] at c38
  have hS := hA1.at_.setAt (q + 1) (by have := HNL.out; omega)
  obtain ⟨X, hX⟩ : ∃ X : World, X = w1.setCell ⟨x.mb, 38, none⟩ (.int .i64 ((q : Int) + 1)) := ⟨_, rfl⟩
  have hcast : (((q + 1 : Nat) : Int)) = (q : Int) + 1 := by omega
  rw [hcast, ← hX] at hS
  have HN := hidden (hA1.trans hS); have HX := hidden hX
  have hmX := hS.at_.c38.2.2
  clear hb1 HV hA1 hS hX hcast
  go_upto_region 7 with fail
  rw [← HX.out]
  clear c38 f38
  rw [HQ.out] at HN
  have HI := hidden (mach_leave HN.out.at_ HCC.out hp)
  go_wp2_with fail
  refine HI.out.mono ?_
  rintro e w2 ⟨rfl, y, hy⟩
  have HZ := hidden (HN.out.trans hy)
  clear hy HI
  go_wp2_with fail
  go_ret
  exact ⟨rfl, _, HZ.out⟩
end

end Go.Proofs.YtcphhbofjkenaaaGreatDoor

namespace Go.Proofs.YtcphhbofjkenaaaGreatDoor
open Go Go.RowKit
set_option linter.unusedVariables false
set_option linter.unusedSimpArgs false

def execM (k : Nat) (v : Int) (m : MS) (u : MW) : Int × MS × MW :=
  if k ≤ 12 then
    match m.stk with
    | b :: a :: s => (4, { m with stk := twoP k a b :: s, at_ := m.at_ + 1 }, u)
    | _ => (4, m, u)
  else if k ≤ 15 then
    match m.stk with
    | a :: s => (4, { m with stk := oneP k a :: s, at_ := m.at_ + 1 }, u)
    | _ => (4, m, u)
  else if k ≤ 22 then (4, { m with stk := arrP k m.stk, at_ := m.at_ + 1 }, u)
  else if k = 23 then
    match m.stk with
    | i :: s => (4, { m with stk := u.vars.getD i.toNat 0 :: s, at_ := m.at_ + 1 }, u)
    | _ => (4, m, u)
  else if k = 24 then
    match m.stk with
    | i :: a :: s => (4, { m with stk := s, at_ := m.at_ + 1 }, { u with vars := u.vars.set i.toNat a })
    | _ => (4, m, u)
  else if k = 25 then (4, { m with stk := u.ins.headD 0 :: m.stk, at_ := m.at_ + 1 }, { u with ins := u.ins.tail })
  else if k = 26 then
    match m.stk with
    | a :: s => (4, { m with stk := s, at_ := m.at_ + 1 }, { u with outs := u.outs ++ [a] })
    | _ => (4, m, u)
  else if k = 27 then (4, { m with stk := (m.loops.getLastD (0, 0)).1 :: m.stk, at_ := m.at_ + 1 }, u)
  else if k = 28 then (4, { m with stk := v :: m.stk, at_ := m.at_ + 2 }, u)
  else if k = 29 then
    match m.stk with
    | a :: s => (4, { m with stk := s, at_ := if a = 0 then v.toNat else m.at_ + 2 }, u)
    | _ => (4, m, u)
  else if k = 30 then (4, { m with at_ := v.toNat }, u)
  else if k = 31 then
    match m.stk with
    | a :: b :: s => (4, if a < b then { m with stk := s, loops := m.loops ++ [(a, b)], at_ := m.at_ + 2 } else { m with stk := s, at_ := v.toNat }, u)
    | _ => (4, m, u)
  else if k = 32 then
    (4, if (m.loops.getLastD (0, 0)).1 + 1 < (m.loops.getLastD (0, 0)).2 then { m with loops := m.loops.dropLast ++ [((m.loops.getLastD (0, 0)).1 + 1, (m.loops.getLastD (0, 0)).2)], at_ := v.toNat } else { m with loops := m.loops.dropLast, at_ := m.at_ + 2 }, u)
  else if k = 33 then (4, { m with calls := m.calls ++ [((m.at_ + 2 : Nat) : Int)], at_ := v.toNat }, u)
  else if m.calls = [] then (0, { m with at_ := m.at_ + 1 }, u) else (4, { m with calls := m.calls.dropLast, at_ := (m.calls.getLastD 0).toNat }, u)

def stepM (code : List Int) (m : MS) (u : MW) : Int × MS × MW :=
  if hindP (code.getD m.at_ 0).toNat m.stk u.vars.length ≠ 4 then (hindP (code.getD m.at_ 0).toNat m.stk u.vars.length, m, u) else execM (code.getD m.at_ 0).toNat (code.getD (m.at_ + 1) 0) m u

structure StepOk (code : List Int) (m : MS) (u : MW) : Prop where
  op : ∃ k : Nat, k < 35 ∧ code[m.at_]? = some (k : Int)
  cell : ∀ a ∈ m.stk, Cell a
  opd : ∀ k : Nat, code[m.at_]? = some (k : Int) → 28 ≤ k → k ≤ 33 → ∃ v, code[m.at_ + 1]? = some v ∧ (k ≠ 28 → ∃ n : Nat, v = n ∧ n ≤ code.length)
  loop : ∀ k : Nat, code[m.at_]? = some (k : Int) → (k = 27 ∨ k = 32) → ∃ l a b, m.loops = l ++ [(a, b)] ∧ -9000000000 ≤ a ∧ a ≤ 9000000000
  call : ∀ (l : List Int) (p : Int), m.calls = l ++ [p] → ∃ n : Nat, p = n ∧ n ≤ code.length
  room : m.loops.length + 1 ≤ 2000000 ∧ m.calls.length + 1 ≤ 2000000 ∧ u.outs.length + 1 ≤ 2000000

theorem hind_ok {k : Nat} {s : List Int} {n : Nat} (h : hindP k s n = 4) : (opInf k).need ≤ s.length ∧ (s.length : Int) + (opInf k).net ≤ 32 ∧ ((k = 23 ∨ k = 24) → 0 ≤ s.headD 0 ∧ s.headD 0 < (n : Int)) := by
  unfold hindP at h
  split at h
  · exact absurd h (by decide)
  · rename_i h1
    split at h
    · exact absurd h (by decide)
    · rename_i h2
      split at h
      · exact absurd h (by decide)
      · rename_i h3
        refine ⟨by omega, by omega, fun hk => ?_⟩
        exact Classical.byContradiction (fun hn => h2 ⟨hk, hn⟩)

theorem two_need : ∀ k, k ≤ 12 → (opInf k).need = 2 := by decide +kernel
theorem one_need (k : Nat) (h1 : 13 ≤ k) (h2 : k ≤ 15) : (opInf k).need = 1 := by
  have hc : k = 13 ∨ k = 14 ∨ k = 15 := by omega
  rcases hc with rfl | rfl | rfl <;> rfl

theorem stk1 {s : List Int} (h : (1 : Int) ≤ s.length) : ∃ a r, s = a :: r := by
  cases s with
  | nil => simp at h
  | cons a r => exact ⟨a, r, rfl⟩
theorem stk2 {s : List Int} (h : (2 : Int) ≤ s.length) : ∃ a b r, s = a :: b :: r := by
  obtain ⟨a, r, rfl⟩ := stk1 (s := s) (by omega)
  obtain ⟨b, r, rfl⟩ := stk1 (s := r) (by simp at h; omega)
  exact ⟨a, b, r, rfl⟩
theorem stk3 {s : List Int} (h : (3 : Int) ≤ s.length) : ∃ a b c r, s = a :: b :: c :: r := by
  obtain ⟨a, b, r, rfl⟩ := stk2 (s := s) (by omega)
  obtain ⟨c, r, rfl⟩ := stk1 (s := r) (by simp at h; omega)
  exact ⟨a, b, c, r, rfl⟩

section
variable {B : Nat} {w w' : World} {x : RX} {code : List Int} {m m' : MS} {u u' : MW}

theorem mach_step (h : RAt B w x code m u) (ht : Tab w) (hok : StepOk code m u) :
    Calls Tryz.prog 74 #[.pointer (some ⟨x.mb, 0, none⟩)] w fun e w' => e = .returned (.int .i64 (stepM code m u).1) ∧ RNext B w x code (stepM code m u).2.1 (stepM code m u).2.2 w' := by
  obtain ⟨k, hk, hop⟩ := hok.op
  have hg : (code.getD m.at_ 0).toNat = k := by
    have : code.getD m.at_ 0 = (k : Int) := by rw [List.getD_eq_getElem?_getD, hop]; rfl
    rw [this]; simp
  unfold stepM
  rw [hg]
  by_cases hh : hindP k m.stk u.vars.length = 4
  · rw [if_neg (fun h => h hh)]
    obtain ⟨hn, hm, ha⟩ := hind_ok hh
    have hl32 := h.c32.2
    obtain ⟨v, hv⟩ : ∃ v, v = code.getD (m.at_ + 1) 0 := ⟨_, rfl⟩
    rw [← hv]
    have hvv : ∀ v', code[m.at_ + 1]? = some v' → v = v' := fun v' h' => by rw [hv, List.getD_eq_getElem?_getD, h']; rfl
    unfold execM
    by_cases h12 : k ≤ 12
    · rw [if_pos h12]
      rw [two_need k h12] at hn
      obtain ⟨b, a, s, hs⟩ := stk2 hn
      rw [hs]
      exact step_two h12 h ht hop hh hs (hok.cell a (by rw [hs]; simp)) (hok.cell b (by rw [hs]; simp))
    · rw [if_neg h12]
      by_cases h15 : k ≤ 15
      · rw [if_pos h15]
        rw [one_need k (by omega) h15] at hn
        obtain ⟨a, s, hs⟩ := stk1 hn
        rw [hs]
        exact step_one (by omega) h15 h ht hop hh hs (hok.cell a (by rw [hs]; simp))
      · rw [if_neg h15]
        by_cases h22 : k ≤ 22
        · rw [if_pos h22]
          have hc : k = 16 ∨ k = 17 ∨ k = 18 ∨ k = 19 ∨ k = 20 ∨ k = 21 ∨ k = 22 := by omega
          rcases hc with rfl | rfl | rfl | rfl | rfl | rfl | rfl
          · obtain ⟨c, s, hs⟩ := stk1 hn
            have e : arrP 16 m.stk = c :: c :: s := by rw [hs]; match s with | [] => rfl | [_] => rfl | _ :: _ :: _ => rfl
            rw [e]
            exact step_arr (by omega) (by omega) h ht hop hh (fun w1 h1 => (mach_dup h1 hs (by have : (opInf 16).net = 1 := rfl; simp only; omega)).mono (fun e w2 ⟨h2, h3⟩ => ⟨h2, _, h3⟩))
          · obtain ⟨c, s, hs⟩ := stk1 hn
            have e : arrP 17 m.stk = s := by rw [hs]; match s with | [] => rfl | [_] => rfl | _ :: _ :: _ => rfl
            rw [e]
            exact step_arr (by omega) (by omega) h ht hop hh (fun w1 h1 => (mach_drop h1 hs (by simp only; omega)).mono (fun e w2 ⟨h2, h3⟩ => ⟨h2, _, h3⟩))
          · obtain ⟨c, b, s, hs⟩ := stk2 hn
            have e : arrP 18 m.stk = b :: c :: s := by rw [hs]; match s with | [] => rfl | _ :: _ => rfl
            rw [e]
            exact step_arr (by omega) (by omega) h ht hop hh (fun w1 h1 => (mach_swap h1 hs (by simp only; omega)).mono (fun e w2 ⟨h2, h3⟩ => ⟨h2, _, h3⟩))
          · obtain ⟨c, b, s, hs⟩ := stk2 hn
            have e : arrP 19 m.stk = b :: c :: b :: s := by rw [hs]; match s with | [] => rfl | _ :: _ => rfl
            rw [e]
            exact step_arr (by omega) (by omega) h ht hop hh (fun w1 h1 => (mach_over h1 hs (by have : (opInf 19).net = 1 := rfl; simp only; omega)).mono (fun e w2 ⟨h2, h3⟩ => ⟨h2, _, h3⟩))
          · obtain ⟨c, b, a, s, hs⟩ := stk3 hn
            have e : arrP 20 m.stk = a :: c :: b :: s := by rw [hs]; rfl
            rw [e]
            exact step_arr (by omega) (by omega) h ht hop hh (fun w1 h1 => (mach_rot h1 hs (by simp only; omega)).mono (fun e w2 ⟨h2, h3⟩ => ⟨h2, _, h3⟩))
          · obtain ⟨c, b, s, hs⟩ := stk2 hn
            have e : arrP 21 m.stk = c :: s := by rw [hs]; match s with | [] => rfl | _ :: _ => rfl
            rw [e]
            exact step_arr (by omega) (by omega) h ht hop hh (fun w1 h1 => (mach_nip h1 hs (by simp only; omega)).mono (fun e w2 ⟨h2, h3⟩ => ⟨h2, _, h3⟩))
          · obtain ⟨c, b, s, hs⟩ := stk2 hn
            have e : arrP 22 m.stk = c :: b :: c :: s := by rw [hs]; match s with | [] => rfl | _ :: _ => rfl
            rw [e]
            exact step_arr (by omega) (by omega) h ht hop hh (fun w1 h1 => (mach_tuck h1 hs (by have : (opInf 22).net = 1 := rfl; simp only; omega)).mono (fun e w2 ⟨h2, h3⟩ => ⟨h2, _, h3⟩))
        · rw [if_neg h22]
          have hc : k = 23 ∨ k = 24 ∨ k = 25 ∨ k = 26 ∨ k = 27 ∨ k = 28 ∨ k = 29 ∨ k = 30 ∨ k = 31 ∨ k = 32 ∨ k = 33 ∨ k = 34 := by omega
          rcases hc with rfl | rfl | rfl | rfl | rfl | rfl | rfl | rfl | rfl | rfl | rfl | rfl
          · obtain ⟨a, s, hs⟩ := stk1 hn
            have ha' := ha (Or.inl rfl)
            rw [hs] at ha'
            simp only [List.headD_cons] at ha'
            obtain ⟨i, rfl⟩ : ∃ i : Nat, a = i := ⟨a.toNat, by omega⟩
            rw [if_pos rfl, hs]
            exact step_deal (by omega) (by omega) h ht hop hh (fun w1 h1 => (mach_fetch h1 hs (by omega)).mono (fun e w2 ⟨h2, h3⟩ => ⟨h2, _, h3⟩))
          · obtain ⟨a, b, s, hs⟩ := stk2 hn
            have ha' := ha (Or.inr rfl)
            rw [hs] at ha'
            simp only [List.headD_cons] at ha'
            obtain ⟨i, rfl⟩ : ∃ i : Nat, a = i := ⟨a.toNat, by omega⟩
            rw [if_neg (by decide), if_pos rfl, hs]
            exact step_deal (by omega) (by omega) h ht hop hh (fun w1 h1 => (mach_store h1 hs (by omega)).mono (fun e w2 ⟨h2, h3⟩ => ⟨h2, _, h3⟩))
          · rw [if_neg (by decide), if_neg (by decide), if_pos rfl]
            exact step_deal (by omega) (by omega) h ht hop hh (fun w1 h1 => mach_in h1 (by have : (opInf 25).net = 1 := rfl; simp only; omega))
          · obtain ⟨a, s, hs⟩ := stk1 hn
            rw [if_neg (by decide), if_neg (by decide), if_neg (by decide), if_pos rfl, hs]
            exact step_deal (by omega) (by omega) h ht hop hh (fun w1 h1 => mach_out h1 hs hok.room.2.2)
          · obtain ⟨l, a, b, hl, _, _⟩ := hok.loop 27 hop (Or.inl rfl)
            rw [if_neg (by decide), if_neg (by decide), if_neg (by decide), if_neg (by decide), if_pos rfl]
            have e : (m.loops.getLastD (0, 0)).1 = a := by rw [hl]; simp
            rw [e]
            exact step_index h ht hop hh hl (by have : (opInf 27).net = 1 := rfl; omega)
          · obtain ⟨v', hv', _⟩ := hok.opd 28 hop (by omega) (by omega)
            rw [if_neg (by decide), if_neg (by decide), if_neg (by decide), if_neg (by decide), if_neg (by decide), if_pos rfl, hvv v' hv']
            exact step_push h ht hop hh hv' (by have : (opInf 28).net = 1 := rfl; omega)
          · obtain ⟨v', hv', hn'⟩ := hok.opd 29 hop (by omega) (by omega)
            obtain ⟨n, rfl, hnl⟩ := hn' (by decide)
            obtain ⟨a, s, hs⟩ := stk1 hn
            rw [if_neg (by decide), if_neg (by decide), if_neg (by decide), if_neg (by decide), if_neg (by decide), if_neg (by decide), if_pos rfl, hvv _ hv', hs]
            exact step_jump (by omega) (by omega) h ht hop hh (fun w1 h1 => mach_if h1 hv' hnl hs)
          · obtain ⟨v', hv', hn'⟩ := hok.opd 30 hop (by omega) (by omega)
            obtain ⟨n, rfl, hnl⟩ := hn' (by decide)
            rw [if_neg (by decide), if_neg (by decide), if_neg (by decide), if_neg (by decide), if_neg (by decide), if_neg (by decide), if_neg (by decide), if_pos rfl, hvv _ hv']
            exact step_jump (by omega) (by omega) h ht hop hh (fun w1 h1 => mach_else (m := { m with at_ := m.at_ + 1 }) h1 hv' hnl)
          · obtain ⟨v', hv', hn'⟩ := hok.opd 31 hop (by omega) (by omega)
            obtain ⟨n, rfl, hnl⟩ := hn' (by decide)
            obtain ⟨a, b, s, hs⟩ := stk2 hn
            rw [if_neg (by decide), if_neg (by decide), if_neg (by decide), if_neg (by decide), if_neg (by decide), if_neg (by decide), if_neg (by decide), if_neg (by decide), if_pos rfl, hvv _ hv', hs]
            exact step_jump (by omega) (by omega) h ht hop hh (fun w1 h1 => mach_do h1 hv' hnl hs hok.room.1)
          · obtain ⟨v', hv', hn'⟩ := hok.opd 32 hop (by omega) (by omega)
            obtain ⟨n, rfl, hnl⟩ := hn' (by decide)
            obtain ⟨l, a, b, hl, h0, h1'⟩ := hok.loop 32 hop (Or.inr rfl)
            have e : m.loops.getLastD (0, 0) = (a, b) := by rw [hl]; simp
            have e2 : m.loops.dropLast = l := by rw [hl]; simp
            rw [if_neg (by decide), if_neg (by decide), if_neg (by decide), if_neg (by decide), if_neg (by decide), if_neg (by decide), if_neg (by decide), if_neg (by decide), if_neg (by decide), if_pos rfl, hvv _ hv', e, e2]
            exact step_jump (by omega) (by omega) h ht hop hh (fun w1 h1 => mach_loop h1 hv' hnl hl h0 h1')
          · obtain ⟨v', hv', hn'⟩ := hok.opd 33 hop (by omega) (by omega)
            obtain ⟨n, rfl, hnl⟩ := hn' (by decide)
            rw [if_neg (by decide), if_neg (by decide), if_neg (by decide), if_neg (by decide), if_neg (by decide), if_neg (by decide), if_neg (by decide), if_neg (by decide), if_neg (by decide), if_neg (by decide), if_pos rfl, hvv _ hv']
            exact step_jump (by omega) (by omega) h ht hop hh (fun w1 h1 => mach_callw h1 hv' hnl hok.room.2.1)
          · rw [if_neg (by decide), if_neg (by decide), if_neg (by decide), if_neg (by decide), if_neg (by decide), if_neg (by decide), if_neg (by decide), if_neg (by decide), if_neg (by decide), if_neg (by decide), if_neg (by decide)]
            by_cases hc : m.calls = []
            · rw [if_pos hc]
              exact step_end0 h ht hop hh hc
            · rw [if_neg hc]
              obtain ⟨l, p, hlp⟩ : ∃ l p, m.calls = l ++ [p] := ⟨m.calls.dropLast, m.calls.getLast hc, (List.dropLast_concat_getLast hc).symm⟩
              obtain ⟨n, rfl, hnl⟩ := hok.call l p hlp
              have e : m.calls.getLastD 0 = (n : Int) := by rw [hlp]; simp
              have e2 : m.calls.dropLast = l := by rw [hlp]; simp
              rw [e, e2]
              exact step_end h ht hop hh hlp hnl
  · rw [if_pos hh]
    exact step_hind hk h ht hop rfl hh
end

end Go.Proofs.YtcphhbofjkenaaaGreatDoor

namespace Go.Proofs.YtcphhbofjkenaaaGreatDoor
open Go Go.RowKit
set_option linter.unusedVariables false
set_option linter.unusedSimpArgs false

def runM (code : List Int) : Nat → Nat → MS → MW → Nat × Int × MS × MW
  | 0, n, m, u => (n, 4, m, u)
  | f + 1, n, m, u => if (stepM code m u).1 = 4 then runM code f (n + 1) (stepM code m u).2.1 (stepM code m u).2.2 else (n + 1, (stepM code m u).1, (stepM code m u).2.1, (stepM code m u).2.2)

theorem RN.tab {B : Nat} {w w' : World} {x y : RX} {code : List Int} {m m' : MS} {u u' : MW} (h : RAt B w x code m u) (hn : RN B w x code m' u' w' y) (ht : Tab w) (hB : 3 ≤ B) : Tab w' := ht.chg hn.chg (fun k hk => Nat.le_trans hB (h.baseS hk))

set_option maxRecDepth 100000 in
set_option maxHeartbeats 4000000 in
theorem mach_run {B : Nat} {w : World} {x : RX} {code : List Int} {m : MS} {u : MW} (I : Nat → MS → MW → Prop) (fuel : Nat) (hf : fuel ≤ 1000000) (hI : I 0 m u) (hstep : ∀ n m u, n < fuel → I n m u → StepOk code m u ∧ ((stepM code m u).1 = 4 → I (n + 1) (stepM code m u).2.1 (stepM code m u).2.2))
    (h : RAt B w x code m u) (ht : Tab w) (hB : 3 ≤ B) :
    Calls Tryz.prog 49 #[.pointer (some ⟨x.mb, 0, none⟩), .int .i64 fuel] w fun e w' => e = .returned (.tuple #[.int .i64 (runM code fuel 0 m u).1, .int .i64 (runM code fuel 0 m u).2.1]) ∧ RNext B w x code (runM code fuel 0 m u).2.2.1 (runM code fuel 0 m u).2.2.2 w' := by
  obtain ⟨R, hR⟩ : ∃ R, R = runM code fuel 0 m u := ⟨_, rfl⟩
  rw [← hR]
  have HR := hidden hR; have H := hidden h; have HT := hidden ht; have HI := hidden hI; have HST := hidden hstep
  have hmb := h.c38.2.2
  clear hR h ht hI hstep
  go_enter Tryz.func49, Tryz.ntmps49
  go_wp2_with fail
  go_loopw [4, 5] (fun s e wr => ∃ (n : Nat) (E : Int), n ≤ fuel ∧ s = .int .i64 n ∧ e = .int .i64 E ∧ Hid ((E = 4 ∧ ∃ m' u', R = runM code (fuel - n) n m' u' ∧ I n m' u' ∧ RNext B w x code m' u' wr) ∨ (E ≠ 4 ∧ ∃ m' u', R = (n, E, m', u') ∧ RNext B w x code m' u' wr))) (fun s e _ => if intOf e = 4 then fuel + 1 - (intOf s).toNat else 0)
  case atStart => exact ⟨0, 4, Nat.zero_le _, rfl, rfl, hidden (Or.inl ⟨rfl, m, u, HR.out, HI.out, x, H.out.below (Below.refl _ _)⟩)⟩
  case round =>
    clear HR HI
    obtain ⟨n, E, hn, rfl, rfl, HC⟩ := hrel
    by_cases hE : E = 4
    · subst hE
      obtain ⟨_, m', u', hr, hi, y, hy⟩ := HC.out.resolve_right (fun h => h.1 rfl)
      by_cases hlt : n < fuel
      · have hli : (n : Int) < (fuel : Int) := by omega
        obtain ⟨hok, hnx⟩ := HST.out n m' u' hlt hi
        have hst := mach_step hy.at_ (RN.tab H.out hy HT.out hB) hok
        rw [hy.mb] at hst
        rw [show fuel - n = (fuel - n - 1) + 1 by omega, runM] at hr
        have HS := hidden hst; have HRR := hidden hr; have HY := hidden hy; have HNX := hidden hnx
        obtain ⟨E', hE'⟩ : ∃ E', E' = (stepM code m' u').1 := ⟨_, rfl⟩
        rw [← hE'] at HS HRR HNX
        have HE := hidden hE'
        clear HC hr hi hy hok hnx hst hE'
        go_wp2_with fail
        refine HS.out.mono ?_
        rintro e w2 ⟨rfl, z, hz⟩
        have HZ := hidden (HY.out.trans hz)
        clear hz HS
        go_wp2_with fail
        go_roundw
        case rel =>
          refine ⟨n + 1, E', by omega, by go_num, rfl, hidden ?_⟩
          by_cases h4 : E' = 4
          · refine Or.inl ⟨h4, _, _, ?_, HNX.out h4, z, HZ.out⟩
            rw [HRR.out, if_pos h4]
            congr 1
          · refine Or.inr ⟨h4, _, _, ?_, z, HZ.out⟩
            rw [HRR.out, if_neg h4]
        case measure =>
          simp only [intOf]
          by_cases h4 : E' = 4
          · simp [h4]; omega
          · simp [h4]; omega
      · obtain rfl : n = fuel := by omega
        rw [Nat.sub_self] at hr
        have HRR := hidden (show R = (n, 4, m', u') from hr); have HY := hidden hy
        have hli : ¬ (n : Int) < (n : Int) := by omega
        clear HC hr hi hy
        go_wp2_with fail
        exact bodyPost_ret (v := .tuple #[.int .i64 n, .int .i64 4]) (by simp [results, Tryz.results49, go_sem]) rfl ⟨by rw [HRR.out], y, by rw [HRR.out]; exact HY.out⟩
    · obtain ⟨_, m', u', hr, y, hy⟩ := HC.out.resolve_left (fun h => hE h.1)
      have hEb : (E == 4) = false := by simp [hE]
      have HRR := hidden hr; have HY := hidden hy
      clear HC hr hy
      go_wp2_with fail
      exact bodyPost_ret (v := .tuple #[.int .i64 n, .int .i64 E]) (by simp [results, Tryz.results49, go_sem]) rfl ⟨by rw [HRR.out], y, by rw [HRR.out]; exact HY.out⟩

end Go.Proofs.YtcphhbofjkenaaaGreatDoor

namespace Go.Proofs.YtcphhbofjkenaaaGreatDoor
open Go Go.RowKit
set_option linter.unusedVariables false
set_option linter.unusedSimpArgs false

instance (n : Int) : Decidable (Cell n) := by unfold Cell; infer_instance
theorem make_rowsM {P : Program} (t e : TypeId) (z : Value) (zc : Array Value) (size bytes : Nat) (hzc : z.cells = zc) (ht : P.underlying t = some (.slice e)) (hinfo : (P.info? e).map (fun i => (i.zero, i.size, i.bytes)) = some (some z, size, bytes)) (n : Nat) (hbytes : bytes * n ≤ 281474976710656) (h63 : n ≤ 9223372036854775807) (w : World) :
    (Instr.makeSlice t (.int .i64 (n : Int)) (.int .i64 (n : Int))).run P w = .ok (.slice (some ⟨w.heap.size, 0, none⟩) n n) (w.alloc (.cells (madeCells zc (n * size)) e)) := by
  subst hzc
  obtain ⟨i, hi, hz, hs, hb⟩ := info_parts hinfo
  have := run_make (P := P) w t e i z ht hi hz .i64 .i64 n n (by omega) (Int.le_refl _) (by rw [hb, ← Int.natCast_mul]; omega) (by omega)
  rw [hs] at this
  simpa using this

def areC (l : List Int) : Bool := l.all fun n => decide (Cell n)

theorem insAt_all {B : Nat} {w : World} {iv : Value} {l : List Int} (h : InsAt B w iv l) : ∃ a c, iv = .slice a l.length c ∧ ∀ (j : Nat) (y : Int), l[j]? = some y → ∃ pb po, a = some ⟨pb, po, none⟩ ∧ pb < B ∧ w.cell? ⟨pb, po + j, none⟩ = some (.int .i64 y) := by
  rcases h with ⟨rfl, a, c, rfl⟩ | ⟨pb, po, c, rfl, _, h3, h4⟩
  · exact ⟨a, c, rfl, fun j y h => by simp at h⟩
  · exact ⟨_, c, rfl, fun j y h => ⟨pb, po, rfl, h3, h4 j y h⟩⟩

set_option maxRecDepth 100000 in
theorem mach_areCells {B : Nat} {w : World} {iv : Value} {l : List Int} (hi : InsAt B w iv l) (hB : B ≤ w.heap.size) (hl : l.length ≤ 17592186043904) :
    Calls Tryz.prog 56 #[iv] w fun e w' => e = .returned (.bool (areC l)) ∧ w' = w := by
  obtain ⟨R, hR⟩ : ∃ R, R = areC l := ⟨_, rfl⟩
  rw [← hR]
  obtain ⟨a, c, rfl, hv⟩ := insAt_all hi
  · have HR := hidden hR; have HV := hidden hv; have HL := hidden hl
    obtain ⟨n, hn⟩ : ∃ n, n = l.length := ⟨_, rfl⟩
    rw [← hn] at hl ⊢
    have HN := hidden hn
    clear hR hv hn hi
    go_enter Tryz.func56, Tryz.ntmps56
    go_wp2_with fail
    go_loopw [7] (fun s wr => ∃ k : Nat, k ≤ n ∧ s = .int .i64 k ∧ wr = w ∧ Hid (R = areC (l.drop k))) (fun s _ => n - (intOf s).toNat)
    case atStart => exact ⟨0, Nat.zero_le _, rfl, rfl, hidden (by rw [HR.out]; rfl)⟩
    case round =>
      clear HR
      obtain ⟨k, hk, rfl, rfl, HC⟩ := hrel
      by_cases hlt : k < n
      · have hli : (k : Int) < (n : Int) := by omega
        obtain ⟨y, hy⟩ : ∃ y, l[k]? = some y := ⟨_, List.getElem?_eq_getElem (by rw [← HN.out]; exact hlt)⟩
        obtain ⟨pb, po, rfl, hp, cy⟩ := HV.out k y hy
        have hpb : pb < wr.heap.size := by omega
        have hdr : R = (decide (Cell y) && areC (l.drop (k + 1))) := by
          have hyy := (List.getElem?_eq_some_iff.1 hy)
          obtain ⟨h1, h2⟩ := hyy
          rw [HC.out, List.drop_eq_getElem_cons h1, h2]; rfl
        have HD := hidden hdr
        clear hdr hy HC
        by_cases h1 : y < -2147483648
        · have HR : Hid (R = false) := by show R = false; rw [HD.out, decide_eq_false (fun h => by have := h.1; omega)]; rfl
          go_wp2_with fail
          rw [HR.out]
          go_ret
          exact ⟨rfl, rfl⟩
        · by_cases h2 : 2147483647 < y
          · have HR : Hid (R = false) := by show R = false; rw [HD.out, decide_eq_false (fun h => by have := h.2; omega)]; rfl
            go_wp2_with fail
            rw [HR.out]
            go_ret
            exact ⟨rfl, rfl⟩
          · have HR : Hid (R = areC (l.drop (k + 1))) := by show R = _; rw [HD.out, decide_eq_true ⟨by omega, by omega⟩, Bool.true_and]
            go_wp2_with fail
            go_roundw
            case rel => exact ⟨k + 1, by omega, by go_num, by trivial, HR⟩
            case measure => simp only [intOf]; omega
      · obtain rfl : k = n := by omega
        have hli : ¬ (k : Int) < (k : Int) := by omega
        have HR : Hid (R = true) := by show R = true; rw [HC.out, List.drop_of_length_le (by rw [← HN.out]; exact Nat.le_refl _)]; rfl
        clear HC
        go_wp2_with fail
        rw [HR.out]
        go_ret
        exact ⟨rfl, rfl⟩

def mayR (s i : List Int) (f : Int) : Bool := decide (s.length ≤ 32) && (areC s && (areC i && (decide (0 ≤ f) && decide (f ≤ 1000000))))

theorem insAt_len {B : Nat} {w : World} {iv : Value} {l : List Int} (h : InsAt B w iv l) : ∃ a c, iv = .slice a l.length c := by
  rcases h with ⟨rfl, a, c, rfl⟩ | ⟨pb, po, c, rfl, _⟩
  · exact ⟨a, c, rfl⟩
  · exact ⟨_, c, rfl⟩

set_option maxRecDepth 100000 in
theorem forth_mayRun {B : Nat} {w : World} {sv iv : Value} {s i : List Int} (f : Int) (hs : InsAt B w sv s) (hi : InsAt B w iv i) (hB : B ≤ w.heap.size) (hl : s.length ≤ 17592186043904) (hl2 : i.length ≤ 17592186043904) :
    Calls Tryz.prog 44 #[sv, iv, .int .i64 f] w fun e w' => e = .returned (.bool (mayR s i f)) ∧ w' = w := by
  have H1 := hidden (mach_areCells hs hB hl); have H2 := hidden (mach_areCells hi hB hl2)
  obtain ⟨R, hR⟩ : ∃ R, R = mayR s i f := ⟨_, rfl⟩
  rw [← hR]
  unfold mayR at hR
  obtain ⟨a, c, rfl⟩ := insAt_len hs
  obtain ⟨a2, c2, rfl⟩ := insAt_len hi
  clear hs hi
  obtain ⟨n, hn⟩ : ∃ n, n = s.length := ⟨_, rfl⟩
  obtain ⟨n2, hn2⟩ : ∃ n, n = i.length := ⟨_, rfl⟩
  rw [← hn] at H1 hR hl ⊢
  rw [← hn2] at H2 hl2 ⊢
  obtain ⟨x, hx⟩ : ∃ x, x = areC s := ⟨_, rfl⟩
  obtain ⟨y, hy⟩ : ∃ y, y = areC i := ⟨_, rfl⟩
  rw [← hx] at H1 hR
  rw [← hy] at H2 hR
  clear hx hy hn hn2
  by_cases h32 : n ≤ 32
  · have h32i : (n : Int) ≤ 32 := by omega
    rw [decide_eq_true h32, Bool.true_and] at hR
    have HR := hidden hR
    clear hR
    go_enter Tryz.func44, Tryz.ntmps44
    go_wp2_with fail
    refine H1.out.mono ?_
    rintro e w' ⟨rfl, rfl⟩
    clear H1
    cases x
    · go_wp2_with fail
      rw [HR.out]
      go_ret
      exact ⟨rfl, rfl⟩
    · rw [Bool.true_and] at HR
      go_wp2_with fail
      refine H2.out.mono ?_
      rintro e w' ⟨rfl, rfl⟩
      clear H2
      cases y
      · go_wp2_with fail
        rw [HR.out]
        go_ret
        exact ⟨rfl, rfl⟩
      · rw [Bool.true_and] at HR
        by_cases h0 : 0 ≤ f
        · have HR' : Hid (R = decide (f ≤ 1000000)) := by show R = _; rw [HR.out, decide_eq_true h0, Bool.true_and]
          go_wp2_with fail
          rw [HR'.out]
          go_ret
          exact ⟨rfl, rfl⟩
        · have h0' : f < 0 := by omega
          have HR' : Hid (R = false) := by show R = false; rw [HR.out, decide_eq_false h0, Bool.false_and]
          go_wp2_with fail
          rw [HR'.out]
          go_ret
          exact ⟨rfl, rfl⟩
  · have h32i : ¬ (n : Int) ≤ 32 := by omega
    have HR' : Hid (R = false) := by show R = false; rw [hR, decide_eq_false h32, Bool.false_and]
    clear hR
    go_enter Tryz.func44, Tryz.ntmps44
    go_wp2_with fail
    rw [HR'.out]
    go_ret
    exact ⟨rfl, rfl⟩

theorem made_ints (n : Nat) : (madeCells #[.int .i64 0] (n * 1)).toList = ints (List.replicate n 0) := by
  rw [Nat.mul_one, toList_madeCells_one]; unfold ints; rw [List.map_replicate]

set_option maxRecDepth 100000 in
theorem mach_newWorld {w : World} {iv : Value} (n : Nat) (hn : n ≤ 1000) (hi : ∃ a l c, iv = .slice a l c) :
    Calls Tryz.prog 45 #[.int .i64 n, iv] w fun e w' => ∃ wp vg, e = .returned (.pointer (some ⟨wp, 0, none⟩)) ∧ w.heap.size ≤ wp ∧ vg = w.heap.size ∧ Blk w' wp #[.slice (some ⟨vg, 0, none⟩) n n, .slice none 0 0, iv] 118 ∧ IRow w.heap.size w' (.slice (some ⟨vg, 0, none⟩) n n) (List.replicate n 0) ∧ Below w.heap.size w w' := by
  obtain ⟨a, l, c, rfl⟩ := hi
  have hmk := make_rowsM (P := Tryz.prog) 24 3 (.int .i64 0) #[.int .i64 0] 1 8 rfl Tryz.underlying24 Tryz.infoIn n (by omega) (by omega)
  obtain ⟨vg, hvg⟩ : ∃ vg, vg = w.heap.size := ⟨_, rfl⟩
  obtain ⟨X, hX⟩ : ∃ X : World, X = w.alloc (.cells (madeCells #[.int .i64 0] n) 3 (0, 0)) := ⟨_, rfl⟩
  have hbX : Below w.heap.size w X := by rw [hX]; exact (Below.refl _ _).alloc (Nat.le_refl _) _
  have hrX : X.ownsRow w.heap.size 3 1 (.slice (some ⟨vg, 0, none⟩) n n) n (madeCells #[.int .i64 0] n).toList := by
    rw [hX, hvg]; exact World.ownsRow_lit w _ n (Nat.le_refl _) (by unfold maxLen; omega) (by rw [size_madeCells, Nat.mul_one])
  have HVG := hidden hvg; have HX := hidden hX; have HBX := hidden hbX; have HRX := hidden hrX
  clear hX hbX hrX hvg
  go_enter Tryz.func45, Tryz.ntmps45
  go_wp2_with fail
  rw [← HX.out]
  have hXs : w.heap.size + 1 = X.heap.size := by rw [HX.out]; exact (Array.size_push _).symm
  rw [hXs]
  refine bodyPost_ret (v := .pointer (some ⟨X.heap.size, 0, none⟩)) (by simp [results, Tryz.results45, go_sem]) rfl ⟨_, vg, rfl, HBX.out.size, HVG.out, by rw [HVG.out]; exact blk_new X _ _, ?_, HBX.out.alloc HBX.out.size _⟩
  have h := HRX.out.alloc (.cells #[.slice (some ⟨vg, 0, none⟩) n n, .slice none 0 0, .slice a l c] 118 (0, 0))
  have e := made_ints n
  rw [Nat.mul_one] at e
  rw [e] at h
  unfold IRow
  rw [List.length_replicate, ← HVG.out]
  rw [← HVG.out] at h
  exact h

theorem run_storeAt_row {P : Program} (w : World) (g o : Nat) (ty t : TypeId) (cells cur : Array Value) (hg : w.heap[g]? = some (.cells cur t (0, 0))) (ho : o + cells.size ≤ cur.size) (hi : (P.info? ty).map (·.size) = some cells.size) (h1 : cells.all (·.oneCell') = true) :
    (Instr.storeAt ty (.pointer (some ⟨g, o, none⟩)) (.agg cells)).run P w = .ok () (w.setRow g (cur.toList.take o ++ cells.toList ++ cur.toList.drop (o + cells.size)).toArray) := by
  have := run_storeCells_at P g o t cells.toList 0 cur w hg (by simpa using ho) (fun v hv => (Array.all_eq_true_iff_forall_mem.1 h1) v (by simpa using hv))
  cases hq : P.info? ty with
  | none => simp [hq] at hi
  | some i =>
    have hs : cells.size = i.size := by simp [hq] at hi; omega
    simp only [Nat.add_zero, Array.length_toList] at this
    simp [Instr.storeAt, Instr.sureAddr, storeVar, sizeOf, typeInfo, hq, Value.cells, hs, this]

def z33 : Array Value := #[.int .i64 0, .int .i64 0, .int .i64 0, .int .i64 0, .int .i64 0, .int .i64 0, .int .i64 0, .int .i64 0, .int .i64 0, .int .i64 0, .int .i64 0, .int .i64 0, .int .i64 0, .int .i64 0, .int .i64 0, .int .i64 0, .int .i64 0, .int .i64 0, .int .i64 0, .int .i64 0, .int .i64 0, .int .i64 0, .int .i64 0, .int .i64 0, .int .i64 0, .int .i64 0, .int .i64 0, .int .i64 0, .int .i64 0, .int .i64 0, .int .i64 0, .int .i64 0, .int .i64 0]
theorem wpList_store_row {P : Program} {ops : Array Oper} {rest : List Oper} {op : Oper} {a : Act} {w : World} {Q : Exit → Act → World → Prop} (hgd : op.guard = none) (ty : TypeId) (x y : Operand) (ho : op.op = .store ty x y)
    (g o : Nat) (t : TypeId) (cells cur : Array Value) (hx : a.eval x = .pointer (some ⟨g, o, none⟩)) (hy : a.eval y = .agg cells)
    (hg : w.heap[g]? = some (.cells cur t (0, 0))) (hf : o + cells.size ≤ cur.size) (hi : (P.info? ty).map (·.size) = some cells.size) (h1 : cells.all (·.oneCell') = true)
    (h : wpList P ops Q rest (a.put op.dst undef) (w.setRow g (cur.toList.take o ++ cells.toList ++ cur.toList.drop (o + cells.size)).toArray)) : wpList P ops Q (op :: rest) a w :=
  wpList_plain hgd fun _ hK => by
    unfold Oper.wp execOp
    simp only [ho, hx, hy, Sem.run_bind, run_storeAt_row w g o ty t cells cur hg hf hi h1]
    exact hK _ _ h

theorem copy_none {P : Program} (w : World) (dT sT ty elem : TypeId) (a : Addr) (dLen dCap c : Nat) (hu : P.underlying dT = some (.slice elem)) (hs : ((P.info? elem).map (·.size)).isSome = true) :
    (Builtin.copy_ #[dT, sT] ty #[.slice (some a) dLen dCap, .slice none 0 c]).run P w = .ok (goInt 0) w := by
  cases hq : P.info? elem with
  | none => simp [hq] at hs
  | some i => simp [Builtin.copy_, run_underlying hu, Builtin.lenOf, Builtin.firstCells, sizeOf, typeInfo, hq, storeCells]

theorem putC_nil (cs : Array Value) : putC cs 0 [] = cs := by unfold putC; simp

theorem copy_ins {B : Nat} {w : World} {iv : Value} {l : List Int} {mb : Nat} {cs : Array Value} (hi : InsAt B w iv l) (hl : l.length ≤ 32) (hb : Blk w mb cs 116) (hs : cs.size = 39) :
    (Builtin.copy_ #[24, 24] 3 #[.slice (some ⟨mb, 0, none⟩) 32 32, iv]).run Tryz.prog w = .ok (.int .i64 l.length) (w.setRow mb (putC cs 0 l)) := by
  have hrow : ∀ (a : Addr) (c : Nat), (∀ (j : Nat) (y : Int), l[j]? = some y → w.cell? (a.add j) = some (.int .i64 y)) → (Builtin.copy_ #[24, 24] 3 #[.slice (some ⟨mb, 0, none⟩) 32 32, .slice (some a) l.length c]).run Tryz.prog w = .ok (.int .i64 l.length) (w.setRow mb (putC cs 0 l)) := fun a c h => by
    have hcp := run_copy_row (P := Tryz.prog) w 24 24 3 3 mb 0 32 32 a l.length c cs 116 (l.map (Value.int .i64)) Tryz.underlying24 sz_int hb (by rw [List.length_map]; exact (Nat.min_eq_left hl).symm) (fun j v hj => by
      rw [List.getElem?_map] at hj
      obtain ⟨y, hy1, rfl⟩ := Option.map_eq_some_iff.1 hj
      exact h j y hy1) (by rw [List.length_map]; omega) (fun v hv => by
      obtain ⟨y, _, rfl⟩ := List.mem_map.1 hv; rfl)
    rw [List.length_map] at hcp
    exact hcp
  rcases hi with ⟨rfl, a, c, rfl⟩ | ⟨pb, po, c, rfl, _, _, h4⟩
  · cases a with
    | none =>
      rw [putC_nil, setRow_self w mb cs 116 (0, 0) hb]
      exact copy_none w _ _ _ 3 _ _ _ c Tryz.underlying24 (by rw [sz_int]; rfl)
    | some a => exact hrow a c (fun j y h => by simp at h)
  · exact hrow _ c (fun j y h => by rw [Addr.add_mid]; exact h4 j y h)

section
attribute [local go_sem] quietG
set_option maxRecDepth 100000 in
set_option maxHeartbeats 4000000 in
theorem mach_put0 {B : Nat} {w : World} {mb : Nat} {iv : Value} {cs : Array Value} (ys : List Int) (hb : Blk w mb cs 116) (h : MC cs []) (hy : ys.length ≤ 32) (hi : InsAt B w iv ys) (hB : B ≤ mb) :
    Calls Tryz.prog 106 #[.pointer (some ⟨mb, 0, none⟩), iv] w fun e w' => e = .returned (.tuple #[]) ∧ ∃ cs', Blk w' mb cs' 116 ∧ MC cs' (ys.reverse) ∧ Rest cs cs' ∧ Chg (fun b => b = mb) w w' := by
  have c32 : w.cell? ⟨mb, 32, none⟩ = some (.int .i64 0) := hb.cell 32 _ h.dep
  obtain ⟨hp, hr⟩ := h.push ys (by simpa using hy)
  simp only [List.length_nil, List.append_nil] at hp hr
  rw [show ((0 : Nat) : Int) + (ys.length : Int) = (ys.length : Int) by omega] at hp hr
  have hsz := h.size
  have hmw := hb.lt
  have hcp' := copy_ins (w := w.drew) (hi.below (w' := w.drew) ((Below.refl _ _).drew)) hy hb hsz
  obtain ⟨a, c, rfl⟩ := insAt_len hi
  obtain ⟨X, hX⟩ : ∃ X : World, X = w.drew.setRow mb (putC cs 0 ys) := ⟨_, rfl⟩
  rw [← hX] at hcp'
  have hkX : Blk X mb (putC cs 0 ys) 116 := by rw [hX]; exact setRow_heap w.drew mb _ _ _ _ hb
  have hcX : Chg (fun b => b = mb) w X := by rw [hX]; exact (Chg.refl (fun b => b = mb) w).drew.trans ⟨rfl, rfl, rfl, by simp [World.setRow], fun k hk hne => setRow_other w.drew mb k _ (fun e => hne e)⟩
  have x32 : X.cell? ⟨mb, 32, none⟩ = some (.int .i64 0) := hkX.cell 32 _ (by
    rw [putC_get cs 0 ys 32 (by omega), if_neg (by omega), if_neg (by omega)]; exact h.dep)
  have k0 : ∀ u : {w' : World // w' = w.drew ∨ w' = X}, u.val.cell? ⟨mb, 32, none⟩ = some (.int .i64 0) := fun u => by
    rcases u.property with e | e
    · rw [e]; exact c32
    · rw [e]; exact x32
  have hne : Nonempty {w' : World // w' = w.drew ∨ w' = X} := ⟨⟨X, Or.inr rfl⟩⟩
  have HP := hidden (And.intro hp hr); have HKX := hidden hkX; have HCX := hidden hcX; have HCP := hidden hcp'
  have hfz := hkX.frozen 32
  have hX32 := hkX.lt
  clear hcp' hX hkX hcX h hb hp hr c32 hi
  obtain ⟨n, hn⟩ : ∃ n, n = ys.length := ⟨_, rfl⟩
  rw [← hn] at hy HP HCP ⊢
  clear hn
  go_enter Tryz.func106, Tryz.ntmps106
  refine wp_region_turns (C := OneOf fun w' => w' = w.drew ∨ w' = X) 15 [13] ⟨w.drew, Or.inl rfl⟩ (by kernel_rfl) (by kernel_rfl) rfl ?_
  rw [show List.range 15 = [0, 1, 2, 3, 4, 5, 6, 7, 8, 9, 10, 11, 12, 13, 14] from rfl]
  repeat (refine wpT_step rfl rfl (fun K hK => ?_); go_simp; refine hK _ ?_; clear hK K)
  have hcp := HCP.out
  refine wpT_turn1 rfl rfl (.int .i64 n) X (Or.inr rfl) (Or.inl (by go_simp)) ?_
  clear hcp HCP
  repeat (refine wpT_step rfl rfl (fun K hK => ?_); go_simp; refine hK _ ?_; clear hK K)
  refine wpT_end ?_
  intro w' hw'
  rw [show w' = X from hw']
  clear hw' w' k0 hne
  simp only [List.drop_succ_cons, List.drop_zero]
  go_wp2_with fail
  go_end0
  exact ⟨rfl, _, HKX.out.set (o := 32) _, HP.out.1, HP.out.2, HCX.out.setCell (p := ⟨mb, 32, none⟩) rfl _⟩

end

structure BegC (cs cs' : Array Value) (ys : List Int) (st : Int) : Prop where
  mc : MC cs' ys.reverse
  c33 : cs'[33]? = some (.slice none 0 0)
  c34 : cs'[34]? = some (.slice none 0 0)
  c35 : cs'[35]? = cs[35]?
  c36 : cs'[36]? = cs[36]?
  c37 : cs'[37]? = cs[37]?
  c38 : cs'[38]? = some (.int .i64 st)

theorem begin_cells {cs : Array Value} (hs : cs.size = 39) (at_ : Value) :
    let cs' := ((((cs.toList.take 0 ++ z33.toList ++ cs.toList.drop (0 + z33.size)).toArray.setIfInBounds 33 (.slice none 0 0)).setIfInBounds 34 (.slice none 0 0)).setIfInBounds 38 at_)
    MC cs' [] ∧ cs'[33]? = some (.slice none 0 0) ∧ cs'[34]? = some (.slice none 0 0) ∧ cs'[35]? = cs[35]? ∧ cs'[36]? = cs[36]? ∧ cs'[37]? = cs[37]? ∧ cs'[38]? = some at_ := by
  obtain ⟨row, hrow⟩ : ∃ row, row = (cs.toList.take 0 ++ z33.toList ++ cs.toList.drop (0 + z33.size)).toArray := ⟨_, rfl⟩
  have h33 : z33.size = 33 := rfl
  have hsz : row.size = 39 := by rw [hrow]; simp [h33, hs]
  have hlo : ∀ i, i < 33 → row[i]? = some (.int .i64 0) := fun i hi => by
    rw [hrow, List.getElem?_toArray, List.take_zero, List.nil_append, List.getElem?_append_left (by rw [Array.length_toList, h33]; exact hi)]
    rw [show z33.toList = List.replicate 33 (.int .i64 0) from rfl, List.getElem?_replicate, if_pos hi]
  have hhi : ∀ i, 33 ≤ i → row[i]? = cs[i]? := fun i hi => by
    rw [hrow, List.getElem?_toArray, List.take_zero, List.nil_append, List.getElem?_append_right (by rw [Array.length_toList, h33]; exact hi), Array.length_toList, h33, List.getElem?_drop, Array.getElem?_toList]
    congr 1; omega
  rw [← hrow]
  clear hrow
  intro cs'
  have hg : ∀ i, i ≠ 33 → i ≠ 34 → i ≠ 38 → cs'[i]? = row[i]? := fun i h1 h2 h3 => by
    show ((((row.setIfInBounds 33 _).setIfInBounds 34 _).setIfInBounds 38 _))[i]? = _
    rw [Array.getElem?_setIfInBounds_ne (by omega), Array.getElem?_setIfInBounds_ne (by omega), Array.getElem?_setIfInBounds_ne (by omega)]
  refine ⟨⟨by simp [cs', hsz], trivial, ?_, by simp, fun i hi => ⟨0, ?_⟩⟩, ?_, ?_, ?_, ?_, ?_, ?_⟩
  · rw [hg 32 (by omega) (by omega) (by omega)]; exact hlo 32 (by omega)
  · rw [hg i (by omega) (by omega) (by omega)]; exact hlo i (by omega)
  · show ((((row.setIfInBounds 33 _).setIfInBounds 34 _).setIfInBounds 38 _))[33]? = _
    rw [Array.getElem?_setIfInBounds_ne (by omega), Array.getElem?_setIfInBounds_ne (by omega), Array.getElem?_setIfInBounds_self_of_lt (by omega)]
  · show ((((row.setIfInBounds 33 _).setIfInBounds 34 _).setIfInBounds 38 _))[34]? = _
    rw [Array.getElem?_setIfInBounds_ne (by omega), Array.getElem?_setIfInBounds_self_of_lt (by simp; omega)]
  · rw [hg 35 (by omega) (by omega) (by omega)]; exact hhi 35 (by omega)
  · rw [hg 36 (by omega) (by omega) (by omega)]; exact hhi 36 (by omega)
  · rw [hg 37 (by omega) (by omega) (by omega)]; exact hhi 37 (by omega)
  · show ((((row.setIfInBounds 33 _).setIfInBounds 34 _).setIfInBounds 38 _))[38]? = _
    rw [Array.getElem?_setIfInBounds_self_of_lt (by simp; omega)]

set_option maxRecDepth 100000 in
set_option maxHeartbeats 4000000 in
theorem mach_begin {B : Nat} {w : World} {mb : Nat} {iv : Value} {cs : Array Value} {st : Int} (ys : List Int) (hb : Blk w mb cs 116) (hs : cs.size = 39) (h37 : cs[37]? = some (.int .i64 st)) (hy : ys.length ≤ 32) (hi : InsAt B w iv ys) (hB : B ≤ mb) :
    Calls Tryz.prog 73 #[.pointer (some ⟨mb, 0, none⟩), iv] w fun e w' => e = .returned (.tuple #[]) ∧ ∃ cs', Blk w' mb cs' 116 ∧ BegC cs cs' ys st ∧ Chg (fun b => b = mb) w w' := by
  have hmb := hb.lt
  have hbc := begin_cells hs (.int .i64 st)
  obtain ⟨row, hrow⟩ : ∃ row, row = (cs.toList.take 0 ++ z33.toList ++ cs.toList.drop (0 + z33.size)).toArray := ⟨_, rfl⟩
  rw [← hrow] at hbc
  obtain ⟨X, hX⟩ : ∃ X : World, X = w.setRow mb row := ⟨_, rfl⟩
  have hkX : Blk X mb row 116 := by rw [hX]; exact setRow_heap w mb _ _ _ _ hb
  have hcX : Chg (fun b => b = mb) w X := by rw [hX]; exact ⟨rfl, rfl, rfl, by simp [World.setRow], fun k hk hne => setRow_other w mb k _ (fun e => hne e)⟩
  have hrs : row.size = 39 := by have := hbc.1.size; simpa using this
  obtain ⟨v33, h33⟩ : ∃ v, row[33]? = some v := ⟨_, Array.getElem?_eq_getElem (by omega)⟩
  obtain ⟨v34, h34⟩ : ∃ v, row[34]? = some v := ⟨_, Array.getElem?_eq_getElem (by omega)⟩
  obtain ⟨v38, h38⟩ : ∃ v, row[38]? = some v := ⟨_, Array.getElem?_eq_getElem (by omega)⟩
  have r37 : row[37]? = some (.int .i64 st) := by
    have := hbc.2.2.2.2.2.1
    rw [Array.getElem?_setIfInBounds_ne (by omega), Array.getElem?_setIfInBounds_ne (by omega), Array.getElem?_setIfInBounds_ne (by omega)] at this
    rw [this, h37]
  have x33 := hkX.cell 33 _ h33
  have x34 := hkX.cell 34 _ h34
  have x37 := hkX.cell 37 _ r37
  have x38 := hkX.cell 38 _ h38
  have f33 := hkX.frozen 33
  have f34 := hkX.frozen 34
  have f38 := hkX.frozen 38
  have hXl := hkX.lt
  have hkY := ((hkX.set (o := 33) (.slice none 0 0)).set (o := 34) (.slice none 0 0)).set (o := 38) (.int .i64 st)
  have hcY := ((hcX.setCell (p := ⟨mb, 33, none⟩) rfl (.slice none 0 0)).setCell (p := ⟨mb, 34, none⟩) rfl (.slice none 0 0)).setCell (p := ⟨mb, 38, none⟩) rfl (.int .i64 st)
  obtain ⟨Y, hY⟩ : ∃ Y : World, Y = ((X.setCell ⟨mb, 33, none⟩ (.slice none 0 0)).setCell ⟨mb, 34, none⟩ (.slice none 0 0)).setCell ⟨mb, 38, none⟩ (.int .i64 st) := ⟨_, rfl⟩
  rw [← hY] at hkY hcY
  have HP := hidden (mach_put0 ys hkY hbc.1 hy (hi.below (hcY.toBelow (Nat.le_trans hB (Nat.le_of_lt hmb)) (fun b hb e => by omega))) hB)
  have HBC := hidden hbc; have HY := hidden hY; have HCY := hidden hcY; have HX := hidden hX; have HB := hidden hb; have HS := hidden hs
  obtain ⟨a, c, rfl⟩ := insAt_len hi
  have HRW := hidden hrow
  clear hY hkY hcY hbc hX hkX hcX hb h33 h34 h38 r37 h37 hi hs hrow
  generalize ys.length = n at *
  go_enter Tryz.func73, Tryz.ntmps73
  go_upto_region 0 with fail
  refine wp_region_list ?_
  iterate 8 (refine wpList_plain rfl (fun K hK => ?_); go_simp; refine hK _ _ ?_; clear hK K)
  refine wpList_store_row rfl _ _ _ rfl mb 0 116 z33 cs rfl rfl HB.out (by rw [HS.out]; decide) (by kernel_rfl) (by decide +kernel) ?_
  rw [← HRW.out, ← HX.out]
  go_wp2_with fail
  rw [← HY.out]
  clear x33 x34 x37 x38 f33 f34 f38
  refine HP.out.mono ?_
  rintro e w' ⟨rfl, cs', hk', hm', hr', hc'⟩
  obtain ⟨_, b1, b2, b3, b4, b5, b6⟩ := HBC.out
  have HF : Hid (Blk w' mb cs' 116 ∧ BegC cs cs' ys st ∧ Chg (fun b => b = mb) w w') := hidden ⟨hk', ⟨hm', (hr' 33 (by omega)).trans b1, (hr' 34 (by omega)).trans b2, (hr' 35 (by omega)).trans b3, (hr' 36 (by omega)).trans b4, (hr' 37 (by omega)).trans b5, (hr' 38 (by omega)).trans b6⟩, HCY.out.trans hc'⟩
  clear hk' hm' hr' hc' b1 b2 b3 b4 b5 b6 HP HBC HY HCY HX HB HS HRW
  go_wp2_with fail
  go_end0
  exact ⟨rfl, cs', HF.out⟩

theorem row0 (B : Nat) (w : World) (t : TypeId) (k : Nat) : w.ownsRow B t k (.slice none 0 0) 0 [] := ⟨by simp, Or.inl ⟨rfl, rfl⟩⟩

set_option maxRecDepth 100000 in
set_option maxHeartbeats 4000000 in
theorem mach_new {B : Nat} {w : World} {rv iv vv jv : Value} {st wp : Nat} {code vars ins : List Int} (ys : List Int) (hc : CodeAt B w rv code) (hst : st ≤ code.length) (hcl : code.length ≤ 1000) (hy : ys.length ≤ 32) (hi : InsAt B w iv ys) (hB : B ≤ w.heap.size)
    (hwb : Blk w wp #[vv, .slice none 0 0, jv] 118) (hwp : B ≤ wp) (hv : IRow B w vv vars) (hj : InsAt B w jv ins) (hvl : vars.length ≤ 1000) (hjl : ins.length ≤ 20000000000000) :
    Calls Tryz.prog 47 #[rv, .int .i64 st, iv, .pointer (some ⟨wp, 0, none⟩)] w fun e w' => ∃ mb, e = .returned (.pointer (some ⟨mb, 0, none⟩)) ∧ w.heap.size ≤ mb ∧ RAt B w' ⟨mb, wp, rv, st, .slice none 0 0, .slice none 0 0, vv, .slice none 0 0, jv⟩ code ⟨ys.reverse, [], [], st⟩ ⟨vars, [], ins⟩ ∧ Below w.heap.size w w' := by
  obtain ⟨mb, hmb⟩ : ∃ mb, mb = w.heap.size := ⟨_, rfl⟩
  obtain ⟨rg, rn, rc, rfl⟩ : ∃ g n c, rv = .slice (some ⟨g, 0, none⟩) n c := by obtain ⟨g, c, h, _⟩ := hc; exact ⟨_, _, _, h⟩
  obtain ⟨a, c, hiv⟩ := insAt_len hi
  obtain ⟨cs, hcs⟩ : ∃ cs : Array Value, cs = #[.int .i64 0, .int .i64 0, .int .i64 0, .int .i64 0, .int .i64 0, .int .i64 0, .int .i64 0, .int .i64 0, .int .i64 0, .int .i64 0, .int .i64 0, .int .i64 0, .int .i64 0, .int .i64 0, .int .i64 0, .int .i64 0, .int .i64 0, .int .i64 0, .int .i64 0, .int .i64 0, .int .i64 0, .int .i64 0, .int .i64 0, .int .i64 0, .int .i64 0, .int .i64 0, .int .i64 0, .int .i64 0, .int .i64 0, .int .i64 0, .int .i64 0, .int .i64 0, .int .i64 0, .slice none 0 0, .slice none 0 0, .pointer (some ⟨wp, 0, none⟩), .slice (some ⟨rg, 0, none⟩) rn rc, .int .i64 st, .int .i64 0] := ⟨_, rfl⟩
  obtain ⟨W, hW⟩ : ∃ W : World, W = w.alloc (.cells #[.int .i64 0, .int .i64 0, .int .i64 0, .int .i64 0, .int .i64 0, .int .i64 0, .int .i64 0, .int .i64 0, .int .i64 0, .int .i64 0, .int .i64 0, .int .i64 0, .int .i64 0, .int .i64 0, .int .i64 0, .int .i64 0, .int .i64 0, .int .i64 0, .int .i64 0, .int .i64 0, .int .i64 0, .int .i64 0, .int .i64 0, .int .i64 0, .int .i64 0, .int .i64 0, .int .i64 0, .int .i64 0, .int .i64 0, .int .i64 0, .int .i64 0, .int .i64 0, .int .i64 0, .slice none 0 0, .slice none 0 0, .pointer (some ⟨wp, 0, none⟩), .slice (some ⟨rg, 0, none⟩) rn rc, .int .i64 st, .int .i64 0] 116 (0, 0)) := ⟨_, rfl⟩
  have hkW : Blk W mb cs 116 := by rw [hW, hcs, hmb]; exact blk_new w _ _
  have hbW : Below w.heap.size w W := by rw [hW]; exact (Below.refl _ _).alloc (Nat.le_refl _) _
  have h35 : cs[35]? = some (.pointer (some ⟨wp, 0, none⟩)) := by rw [hcs]; rfl
  have h36 : cs[36]? = some (.slice (some ⟨rg, 0, none⟩) rn rc) := by rw [hcs]; rfl
  have h37 : cs[37]? = some (.int .i64 st) := by rw [hcs]; rfl
  have H := hidden (mach_begin (B := B) (st := (st : Int)) ys hkW (by rw [hcs]; rfl) h37 hy (hi.below (hbW.mono hB)) (by omega))
  have HW := hidden hW; have HKW := hidden hkW; have HBW := hidden hbW; have HCS := hidden (And.intro h35 (And.intro h36 h37))
  clear hcs hW hkW hbW h35 h36 h37
  have hmm := HKW.out.lt
  have HMB := hidden hmb; have HC := hidden hc; have HI := hidden hi; have HIV := hidden hiv; have HWB := hidden hwb; have HV := hidden hv; have HJ := hidden hj
  subst hiv
  clear hmb hc hi hv hj hwb
  generalize hn : ys.length = n at *
  go_enter Tryz.func47, Tryz.ntmps47
  go_upto_region 2 with fail
  rw [← HW.out, ← HMB.out]
  go_wp2_with fail
  refine H.out.mono ?_
  rintro e w' ⟨rfl, cs', hk', hb', hc'⟩
  have HF := hidden (And.intro hk' (And.intro hb' hc'))
  clear H hk' hb' hc' HW
  go_wp2_with fail
  refine bodyPost_ret (v := .pointer (some ⟨mb, 0, none⟩)) (by simp [results, Tryz.results47, go_sem]) rfl ⟨mb, rfl, Nat.le_of_eq HMB.out.symm, ?_⟩
  obtain ⟨hk', hb', hc'⟩ := HF.out
  obtain ⟨q35, q36, q37⟩ := HCS.out
  have hBB : Below w.heap.size w w' := HBW.out.trans (hc'.toBelow HBW.out.size (fun b hb e => by have := HMB.out; omega))
  have hB2 := hBB.mono hB
  have hwl := HWB.out.lt
  have hir : ∀ {v : Value} {l : List Int}, IRow B w v l → IRow B w' v l := fun h => ownsRow_chg h (Chg.ofBelow hBB) (fun _ _ e => e)
  exact ⟨⟨⟨cs', hk', hb'.mc, hb'.c33, hb'.c34, hb'.c35.trans q35, hb'.c36.trans q36, hb'.c37.trans q37, hb'.c38⟩, row0 _ _ _ _, row0 _ _ _ _, HWB.out.sub hBB hwl, hir HV.out, row0 _ _ _ _, HJ.out.below hB2, HC.out.below hB2, fun k hk => by simp [Value.ownBlock] at hk, fun k hk h => by simp [Value.ownBlock] at h, by have := HMB.out; show B ≤ mb; omega, hwp, by simp, by simp, by simp, hjl, hvl, hcl, hst⟩, hBB⟩

end Go.Proofs.YtcphhbofjkenaaaGreatDoor

namespace Go.Proofs.YtcphhbofjkenaaaGreatDoor
open Go Go.RowKit
set_option linter.unusedVariables false
set_option linter.unusedSimpArgs false

theorem StkAt.get {cs : Array Value} : ∀ {s : List Int}, StkAt cs s → ∀ (i : Nat) (y : Int), s.reverse[i]? = some y → cs[i]? = some (.int .i64 y)
  | [], _, i, y, h => by simp at h
  | x :: r, h, i, y, hy => by
    rw [List.reverse_cons] at hy
    by_cases hi : i < r.length
    · rw [List.getElem?_append_left (by simpa using hi)] at hy
      exact h.2.get i y hy
    · rw [List.getElem?_append_right (by simpa using hi), List.length_reverse] at hy
      have hi0 : i - r.length = 0 := by
        have := (List.getElem?_eq_some_iff.1 hy).1
        simp at this; omega
      rw [hi0] at hy
      obtain rfl : x = y := by simpa using hy
      rw [show i = r.length by omega]; exact h.1

set_option maxRecDepth 100000 in
set_option maxHeartbeats 2000000 in
theorem ints_clone {w : World} {g c : Nat} (l : List Int) (hl : l.length ≤ 1100000) (hg : g < w.heap.size) (h : ∀ (i : Nat) (y : Int), l[i]? = some y → w.cell? ⟨g, i, none⟩ = some (.int .i64 y)) :
    Calls Tryz.prog 75 #[.slice (some ⟨g, 0, none⟩) l.length c] w fun e w' => ∃ v, e = .returned v ∧ IRow w.heap.size w' v l ∧ Below w.heap.size w w' := by
  have hnl := fun w => Lib.run_eql_slice_nil (P := Tryz.prog) w 24 3 (some ⟨g, 0, none⟩) l.length c 0 0 Tryz.underlying24
  simp only [Option.isNone_some] at hnl
  have H := hidden h
  clear h
  go_enter Tryz.func75, Tryz.ntmps75
  go_upto_region 3 with fail
  refine wp_region_list ?_
  iterate 2 (refine wpList_plain rfl (fun K hK => ?_); go_simp; refine hK _ _ ?_; clear hK K)
  have hb0 : Below w.heap.size w (w.alloc (.cells #[] 3 (0, 0))) := (Below.refl _ _).alloc (Nat.le_refl _) _
  have hown : (w.alloc (.cells #[] 3 (0, 0))).ownsRow w.heap.size 3 1 (.slice (some ⟨w.heap.size, 0, none⟩) 0 0) 0 [] := World.ownsRow_lit w #[] 0 (Nat.le_refl _) (by unfold maxLen; omega) rfl
  obtain ⟨i, hi, hz, hs, hb⟩ := info_parts Tryz.infoIn
  refine wpList_append_own _ rfl _ _ 24 rfl w.heap.size 3 i (.int .i64 0) 1 8 Tryz.underlying24 hi hz hs hb rfl (by decide) _ 0 [] rfl hown ⟨g, 0, none⟩ l.length c (ints l) rfl (by simp [ints]) (fun j u hu => ?_) (fun u hu => ?_) (by unfold maxLen; omega) (by omega) hb0.size ?_
  · unfold ints at hu
    rw [List.getElem?_map] at hu
    obtain ⟨y, hy, rfl⟩ := Option.map_eq_some_iff.1 hu
    rw [Addr.add_lit, Nat.zero_add, hb0.cell (p := ⟨g, j, none⟩) hg]
    exact H.out j y hy
  · obtain ⟨y, _, rfl⟩ := List.mem_map.1 hu; rfl
  intro v' w' hr hgr _
  have HF : Hid (IRow w.heap.size w' v' l ∧ Below w.heap.size w w') := by
    refine hidden ⟨?_, ?_⟩
    · rw [Nat.zero_add, List.nil_append] at hr; exact hr
    · exact hb0.trans ((Chg.ofGrown hgr).toBelow hb0.size (fun b hb e => by have : b = w.heap.size := Option.some.inj e; omega))
  obtain ⟨va, vn, vc, rfl⟩ : ∃ a n c, v' = .slice a n c := by
    rcases hr.2 with ⟨h, _⟩ | ⟨g', c', _, h, _⟩
    · exact ⟨_, _, _, h⟩
    · exact ⟨_, _, _, h⟩
  clear hr hgr hown hb0 hnl H
  go_wp2_with fail
  go_ret
  exact ⟨_, rfl, HF.out⟩

section
attribute [local go_sem] quietG
set_option maxRecDepth 100000 in
set_option maxHeartbeats 4000000 in
theorem mach_stack {w : World} {mb : Nat} {cs : Array Value} {s : List Int} (hb : Blk w mb cs 116) (h : MC cs s) :
    Calls Tryz.prog 50 #[.pointer (some ⟨mb, 0, none⟩)] w fun e w' => ∃ v, e = .returned v ∧ IRow w.heap.size w' v s.reverse ∧ Below w.heap.size w w' := by
  have hl := h.le
  have hmw := hb.lt
  obtain ⟨n, hn⟩ : ∃ n, n = s.length := ⟨_, rfl⟩
  have c32 : w.cell? ⟨mb, 32, none⟩ = some (.int .i64 n) := by rw [hn]; exact hb.cell 32 _ h.dep
  have hs0 : (0 : Int) ≤ (n : Int) := by omega
  have hs1 : (n : Int) ≤ 32 := by omega
  have hcl := ints_clone (w := w.drew) (g := mb) (c := 32) s.reverse (by rw [List.length_reverse]; omega) hmw (fun i y hy => hb.cell i _ (h.stk.get i y hy))
  rw [List.length_reverse, ← hn] at hcl
  have HCL := hidden hcl
  have k0 : ∀ u : {w' : World // w'.cell? ⟨mb, 32, none⟩ = some (.int .i64 n)}, u.val.cell? ⟨mb, 32, none⟩ = some (.int .i64 n) := fun u => u.property
  have hne : Nonempty {w' : World // w'.cell? ⟨mb, 32, none⟩ = some (.int .i64 n)} := ⟨⟨w, c32⟩⟩
  have HC := hidden (show w.drew.cell? ⟨mb, 32, none⟩ = some (.int .i64 n) from c32)
  clear hcl h hb c32 hl hn
  go_enter Tryz.func50, Tryz.ntmps50
  go_upto_region 1 with fail
  refine wp_region_turns (C := OneOf fun w' => w'.cell? ⟨mb, 32, none⟩ = some (.int .i64 n)) 9 [8] ⟨w.drew, HC.out⟩ (by kernel_rfl) (by kernel_rfl) rfl ?_
  rw [show List.range 9 = [0, 1, 2, 3, 4, 5, 6, 7, 8] from rfl]
  repeat (refine wpT_step rfl rfl (fun K hK => ?_); go_simp; refine hK _ ?_; clear hK K)
  refine wpT_call1 rfl rfl 75 #[.slice (some ⟨mb, 0, none⟩) n 32] (by go_simp) (HCL.out.mono ?_)
  rintro e w2 ⟨v, rfl, hr, hb⟩
  refine ⟨_, rfl, (hb.cell (p := ⟨mb, 32, none⟩) hmw).trans HC.out, ?_⟩
  have HF : Hid (IRow w.heap.size w2 v s.reverse ∧ Below w.heap.size w w2) := hidden ⟨hr, (Below.refl _ _).drew.trans hb⟩
  obtain ⟨va, vn, vc, rfl⟩ : ∃ a n c, v = .slice a n c := by
    rcases hr.2 with ⟨h, _⟩ | ⟨g', c', _, h, _⟩
    · exact ⟨_, _, _, h⟩
    · exact ⟨_, _, _, h⟩
  clear HCL
  refine wpT_end ?_
  intro w' hw'
  rw [show w' = w2 from hw']
  clear hw' w' k0 hne hr hb
  simp only [List.drop_succ_cons, List.drop_zero]
  go_wp2_with fail
  go_ret
  exact ⟨_, rfl, HF.out⟩
end

def outz : Array Value := #[.slice none 0 0, .slice none 0 0, .slice none 0 0, .int .i64 0, .int .i64 0]
theorem Blk.outz {w : World} {b : Nat} {t : TypeId} (h : Blk w b outz t) : w.cell? ⟨b, 0, none⟩ = some (.slice none 0 0) ∧ w.cell? ⟨b, 1, none⟩ = some (.slice none 0 0) ∧ w.cell? ⟨b, 2, none⟩ = some (.slice none 0 0) ∧ w.cell? ⟨b, 3, none⟩ = some (.int .i64 0) ∧ w.cell? ⟨b, 4, none⟩ = some (.int .i64 0) :=
  ⟨h.cell 0 _ rfl, h.cell 1 _ rfl, h.cell 2 _ rfl, h.cell 3 _ rfl, h.cell 4 _ rfl⟩
def out0 : Value := .agg #[.slice none 0 0, .slice none 0 0, .slice none 0 0, .int .i64 0, .int .i64 0]
def startOf : Option PE → Option Int
  | some e => if e.var = true then none else some e.place
  | none => none

structure RunOut (B : Nat) (w' : World) (sv ov vv : Value) (m : MS) (u : MW) : Prop where
  s : IRow B w' sv m.stk.reverse
  o : IRow B w' ov u.outs
  v : IRow B w' vv u.vars
  so : ∀ k, sv.ownBlock = some k → ov.ownBlock ≠ some k ∧ vv.ownBlock ≠ some k
  ov : ∀ k, ov.ownBlock = some k → vv.ownBlock ≠ some k

set_option maxRecDepth 100000 in
set_option maxHeartbeats 4000000 in
theorem forth_run_no {w : World} {bb : Nat} {ev cv : Value} {es : List PE} {nv nt : Int} {code : List Int} {B : Nat} {sv iv : Value} {st ins : List Int} (s : ByteArray) (f : Int) (h : PSys w bb ev cv es nv nt code) (hi : LInv es nv nt code)
    (hs : InsAt B w sv st) (hj : InsAt B w iv ins) (hB : B ≤ w.heap.size) (hl : st.length ≤ 17592186043904) (hl2 : ins.length ≤ 17592186043904) (hno : startOf (lastP es s es.length) = none ∨ mayR st ins f = false) :
    Calls Tryz.prog 21 #[.pointer (some ⟨bb, 0, none⟩), .string s, sv, iv, .int .i64 f] w fun e w' => e = .returned (.tuple #[out0, .int .i64 (if startOf (lastP es s es.length) = none then 3 else 1)]) ∧ Below w.heap.size w w' := by
  have hb := h.blk.lt
  have hS := fun w' (hb : Below w.heap.size w w') => book_Start s (h.below (w' := w') hb) (by have := hi.l; omega)
  have hM := fun w' (hb : Below w.heap.size w w') => forth_mayRun (w := w') f (hs.below (hb.mono hB)) (hj.below (hb.mono hB)) (Nat.le_trans hB hb.size) hl hl2
  obtain ⟨R, hR⟩ : ∃ R, R = startRes (lastP es s es.length) := ⟨_, rfl⟩
  obtain ⟨L, hL⟩ : ∃ L, L = lastP es s es.length := ⟨_, rfl⟩
  rw [← hL] at hno hS ⊢
  obtain ⟨a, c, rfl⟩ := insAt_len hs
  obtain ⟨a2, c2, rfl⟩ := insAt_len hj
  have HS := hidden hS; have HM := hidden hM
  clear h hi hs hj hR hL hS hM
  generalize st.length = n1 at *
  generalize ins.length = n2 at *
  cases hst : startOf L with
  | none =>
    have hre : startRes L = .tuple #[.int .i64 0, .int .i64 3] := by
      cases L with
      | none => rfl
      | some e =>
        unfold startOf at hst
        by_cases hv : e.var = true
        · simp [startRes, hv]
        · simp [hv] at hst
    rw [hre] at HS
    rw [if_pos rfl]
    clear hre hno hst HM
    go_enter Tryz.func21, Tryz.ntmps21
    go_wp2_with fail
    refine (forth_book bb _).mono ?_
    rintro e w' ⟨rfl, rfl⟩
    go_wp2_with fail
    have hb0 : Below w.heap.size w (w.alloc (.cells outz 43 (0, 0))) := (Below.refl _ _).alloc (Nat.le_refl _) _
    have hk0 := blk_new w outz 43
    refine (HS.out _ hb0).mono ?_
    rintro e w1 ⟨rfl, hb1⟩
    have hk1 := hk0.sub hb1 (by simp)
    have hlt1 := hk1.lt
    have HBW := hidden (hb0.trans (hb1.mono (by simp)))
    obtain ⟨g0, g1, g2, g3, g4⟩ := hk1.free
    obtain ⟨z0, z1, z2, z3, z4⟩ := hk1.outz
    clear hb0 hk0 hb1 hk1 HS
    go_wp2_with fail
    refine bodyPost_ret (v := .tuple #[out0, .int .i64 3]) (by simp [results, Tryz.results21, go_sem, z0, z1, z2, z3, z4, out0, hlt1]) rfl ⟨rfl, ?_⟩
    exact (((((HBW.out.setCell (Nat.le_refl _) _).setCell (Nat.le_refl _) _).setCell (Nat.le_refl _) _).setCell (Nat.le_refl _) _).setCell (Nat.le_refl _) _)
  | some p =>
    have hre : startRes L = .tuple #[.int .i64 p, .int .i64 0] := by
      cases L with
      | none => cases hst
      | some e =>
        unfold startOf at hst
        by_cases hv : e.var = true
        · simp [hv] at hst
        · simp [hv] at hst; simp [startRes, hv, hst]
    rw [hst] at hno
    have hmf := hno.resolve_left (by simp)
    rw [hre] at HS
    rw [hmf] at HM
    rw [if_neg (by simp)]
    clear hre hno hst hmf
    go_enter Tryz.func21, Tryz.ntmps21
    go_wp2_with fail
    refine (forth_book bb _).mono ?_
    rintro e w' ⟨rfl, rfl⟩
    go_wp2_with fail
    have hb0 : Below w.heap.size w (w.alloc (.cells outz 43 (0, 0))) := (Below.refl _ _).alloc (Nat.le_refl _) _
    have hk0 := blk_new w outz 43
    refine (HS.out _ hb0).mono ?_
    rintro e w1 ⟨rfl, hb1⟩
    have hk1 := hk0.sub hb1 (by simp)
    have hlt1 := hk1.lt
    have HBW := hidden (hb0.trans (hb1.mono (by simp)))
    obtain ⟨g0, g1, g2, g3, g4⟩ := hk1.free
    obtain ⟨z0, z1, z2, z3, z4⟩ := hk1.outz
    clear hb0 hk0 hb1 hk1 HS
    go_wp2_with fail
    refine (HM.out _ HBW.out).mono ?_
    rintro e w2 ⟨rfl, rfl⟩
    go_wp2_with fail
    refine bodyPost_ret (v := .tuple #[out0, .int .i64 1]) (by simp [results, Tryz.results21, go_sem, z0, z1, z2, z3, z4, out0, hlt1]) rfl ⟨rfl, ?_⟩
    exact (((((HBW.out.setCell (Nat.le_refl _) _).setCell (Nat.le_refl _) _).setCell (Nat.le_refl _) _).setCell (Nat.le_refl _) _).setCell (Nat.le_refl _) _)

end Go.Proofs.YtcphhbofjkenaaaGreatDoor

namespace Go.Proofs.YtcphhbofjkenaaaGreatDoor
open Go Go.RowKit
set_option linter.unusedVariables false
set_option linter.unusedSimpArgs false
attribute [local go_sem] quietG

def outV (sv ov vv : Value) (n : Int) (e : Int) : Value := .agg #[sv, ov, vv, .int .i64 n, .int .i64 e]

theorem irow_shape {B : Nat} {w : World} {v : Value} {l : List Int} (h : IRow B w v l) : ∃ a n c, v = .slice a n c := by
  rcases h.2 with ⟨h, _⟩ | ⟨g', c', _, h, _⟩
  · exact ⟨_, _, _, h⟩
  · exact ⟨_, _, _, h⟩

theorem codeAt_of {w : World} {bb : Nat} {ev cv : Value} {es : List PE} {nv nt : Int} {code : List Int} (h : PSys w bb ev cv es nv nt code) (hc : 0 < code.length) : CodeAt w.heap.size w cv code := by
  obtain ⟨g, cap, hv, h1, h2, h3, h4, h5⟩ := row_cells h.cod hc
  exact ⟨g, cap, hv, by omega, by omega, fun i x hx => h5 i _ (by rw [List.getElem?_map, hx]; rfl)⟩

theorem RunOut.chg {B : Nat} {w w' : World} {sv ov vv : Value} {m : MS} {u : MW} {b : Nat} {cs : Array Value} {t : TypeId} (h : RunOut B w sv ov vv m u) (hc : Chg (fun k => k = b) w w') (hb : Blk w b cs t) (ht : t ≠ 3) : RunOut B w' sv ov vv m u := by
  have hir : ∀ {v : Value} {l : List Int}, IRow B w v l → IRow B w' v l := fun h => ownsRow_chg h hc (fun k hk e => by subst e; exact own_blk h hb ht hk)
  exact ⟨hir h.s, hir h.o, hir h.v, h.so, h.ov⟩
theorem InsAt.mono {B C : Nat} {w : World} {iv : Value} {l : List Int} (h : InsAt B w iv l) (hb : B ≤ C) : InsAt C w iv l := by
  rcases h with h | ⟨pb, po, c, h1, h2, h3, h4⟩
  · exact Or.inl h
  · exact Or.inr ⟨pb, po, c, h1, h2, by omega, h4⟩
theorem irow_base {B C : Nat} {w : World} {v : Value} {l : List Int} (h : IRow B w v l) (hb : C ≤ B) : IRow C w v l := by
  refine ⟨h.1, ?_⟩
  rcases h.2 with h | ⟨g, cap, cur, h1, h2, h3⟩
  · exact Or.inl h
  · exact Or.inr ⟨g, cap, cur, h1, Nat.le_trans hb h2, h3⟩

set_option maxRecDepth 100000 in
set_option maxHeartbeats 4000000 in
theorem forth_run {w : World} {bb : Nat} {ev cv : Value} {es : List PE} {nv nt : Int} {code : List Int} {B : Nat} {sv iv : Value} {st ins : List Int} {p : Nat} (s : ByteArray) (f : Nat) (h : PSys w bb ev cv es nv nt code) (hi : LInv es nv nt code) (ht : Tab w)
    (hs : InsAt B w sv st) (hj : InsAt B w iv ins) (hB : B ≤ w.heap.size) (hl : st.length ≤ 17592186043904) (hl2 : ins.length ≤ 17592186043904) (hst : startOf (lastP es s es.length) = some (p : Int)) (hm : mayR st ins f = true) (hp : p < code.length)
    (I : Nat → MS → MW → Prop) (hI : I 0 ⟨st.reverse, [], [], p⟩ ⟨List.replicate nv.toNat 0, [], ins⟩) (hstep : ∀ n m u, n < f → I n m u → StepOk code m u ∧ ((stepM code m u).1 = 4 → I (n + 1) (stepM code m u).2.1 (stepM code m u).2.2)) :
    Calls Tryz.prog 21 #[.pointer (some ⟨bb, 0, none⟩), .string s, sv, iv, .int .i64 f] w fun e w' => ∃ xv ov vv, e = .returned (.tuple #[outV xv ov vv (runM code f 0 ⟨st.reverse, [], [], p⟩ ⟨List.replicate nv.toNat 0, [], ins⟩).1 (runM code f 0 ⟨st.reverse, [], [], p⟩ ⟨List.replicate nv.toNat 0, [], ins⟩).2.1, .int .i64 0]) ∧ RunOut w.heap.size w' xv ov vv (runM code f 0 ⟨st.reverse, [], [], p⟩ ⟨List.replicate nv.toNat 0, [], ins⟩).2.2.1 (runM code f 0 ⟨st.reverse, [], [], p⟩ ⟨List.replicate nv.toNat 0, [], ins⟩).2.2.2 ∧ Below w.heap.size w w' := by
  have hb := h.blk.lt
  have hgl : 3 ≤ w.heap.size := ht.lt
  have hi16 := hi.v1
  have hi0 := hi.v0
  have hc8 := hi.c
  have ht4 := hi.t1
  have hm' := hm
  simp only [mayR, Bool.and_eq_true, decide_eq_true_eq] at hm'
  obtain ⟨h32, _, _, _, hf6⟩ := hm'
  obtain ⟨nn, rfl⟩ : ∃ nn : Nat, nv = nn := ⟨nv.toNat, by omega⟩
  simp only [Int.toNat_natCast] at *
  have hS := fun w' (hb : Below w.heap.size w w') => book_Start s (h.below (w' := w') hb) (by have := hi.l; omega)
  have hM := fun w' (hb : Below w.heap.size w w') => forth_mayRun (w := w') f (hs.below (hb.mono hB)) (hj.below (hb.mono hB)) (Nat.le_trans hB hb.size) hl hl2
  have hV := fun w' (hb : Below w.heap.size w w') => book_Variables (h.below (w' := w') hb)
  have hC := fun w' (hb : Below w.heap.size w w') => book_Code (h.below (w' := w') hb)
  have hca := codeAt_of h (by omega)
  have hcS : ∃ g n c, cv = .slice (some ⟨g, 0, none⟩) n c := by obtain ⟨g, c, h, _⟩ := hca; exact ⟨_, _, _, h⟩
  obtain ⟨L, hL⟩ : ∃ L, L = lastP es s es.length := ⟨_, rfl⟩
  rw [← hL] at hst hS
  have hre : startRes L = .tuple #[.int .i64 p, .int .i64 0] := by
    cases L with
    | none => cases hst
    | some e =>
      unfold startOf at hst
      by_cases hv : e.var = true
      · simp [hv] at hst
      · simp [hv] at hst; simp [startRes, hv, hst]
  rw [hre] at hS
  rw [hm] at hM
  obtain ⟨m0, hm0⟩ : ∃ m0 : MS, m0 = ⟨st.reverse, [], [], p⟩ := ⟨_, rfl⟩
  obtain ⟨u0, hu0⟩ : ∃ u0 : MW, u0 = ⟨List.replicate nn 0, [], ins⟩ := ⟨_, rfl⟩
  rw [← hm0, ← hu0] at hI ⊢
  have hN : ∀ (w' : World) (wp vg : Nat), Below w.heap.size w w' → Blk w' wp #[.slice (some ⟨vg, 0, none⟩) nn nn, .slice none 0 0, iv] 118 → w.heap.size ≤ wp → IRow w.heap.size w' (.slice (some ⟨vg, 0, none⟩) nn nn) (List.replicate nn 0) → Calls Tryz.prog 47 #[cv, .int .i64 p, sv, .pointer (some ⟨wp, 0, none⟩)] w' fun e w2 => ∃ mb, e = .returned (.pointer (some ⟨mb, 0, none⟩)) ∧ w'.heap.size ≤ mb ∧ RAt w.heap.size w2 ⟨mb, wp, cv, p, .slice none 0 0, .slice none 0 0, .slice (some ⟨vg, 0, none⟩) nn nn, .slice none 0 0, iv⟩ code m0 u0 ∧ Below w'.heap.size w' w2 := fun w' wp vg hbl hwb hwp hv => by
    rw [hm0, hu0]
    exact mach_new (B := w.heap.size) (st := p) st (hca.below hbl) (by omega) (by omega) h32 ((hs.mono hB).below hbl) hbl.size hwb hwp hv ((hj.mono hB).below hbl) (by rw [List.length_replicate]; omega) (by omega)
  obtain ⟨R, hRR⟩ : ∃ R, R = runM code f 0 m0 u0 := ⟨_, rfl⟩
  have hR : ∀ (w' : World) (x : RX), RAt w.heap.size w' x code m0 u0 → Tab w' → Calls Tryz.prog 49 #[.pointer (some ⟨x.mb, 0, none⟩), .int .i64 f] w' fun e w2 => e = .returned (.tuple #[.int .i64 R.1, .int .i64 R.2.1]) ∧ RNext w.heap.size w' x code R.2.2.1 R.2.2.2 w2 := fun w' x hra htb => by
    rw [hRR]; exact mach_run I f (by omega) hI hstep hra htb hgl
  rw [← hRR]
  obtain ⟨a, c, rfl⟩ := insAt_len hs
  obtain ⟨a2, c2, rfl⟩ := insAt_len hj
  have HS := hidden hS; have HM := hidden hM; have HV := hidden hV; have HC := hidden hC; have HN := hidden hN; have HR := hidden hR; have HT := hidden ht
  obtain ⟨rg, rn, rc, rfl⟩ := hcS
  clear h hi hs hj hL hS hM hV hC hN hR hRR hm0 hu0 hI hstep hca hre hst hm ht
  obtain ⟨rsteps, rend, rm, ru⟩ := R
  simp only at HR ⊢
  generalize st.length = n1 at *
  generalize ins.length = n2 at *
  go_enter Tryz.func21, Tryz.ntmps21
  go_wp2_with fail
  refine (forth_book bb _).mono ?_
  rintro e w' ⟨rfl, rfl⟩
  go_wp2_with fail
  have hb0 : Below w.heap.size w (w.alloc (.cells outz 43 (0, 0))) := (Below.refl _ _).alloc (Nat.le_refl _) _
  have hk0 := blk_new w outz 43
  refine (HS.out _ hb0).mono ?_
  rintro e w1 ⟨rfl, hb1⟩
  have hk1 := hk0.sub hb1 (by simp)
  have HBW := hidden (hb0.trans (hb1.mono (by simp)))
  have HK1 := hidden hk1
  clear hb0 hk0 hb1 hk1 HS
  go_wp2_with fail
  refine (HM.out _ HBW.out).mono ?_
  rintro e w2 ⟨rfl, rfl⟩
  clear HM
  go_wp2_with fail
  refine (HV.out _ HBW.out).mono ?_
  rintro e w3 ⟨rfl, rfl⟩
  clear HV
  go_wp2_with fail
  refine (mach_newWorld (w := w3) nn (by omega) ⟨_, _, _, rfl⟩).mono ?_
  rintro e w4 ⟨wp, vg, rfl, h1, h2, h3, h4, h5⟩
  have HB4 := hidden (HBW.out.trans (h5.mono HBW.out.size))
  have HW4 := hidden (And.intro h3 (And.intro (Nat.le_trans HBW.out.size h1) (irow_base h4 HBW.out.size)))
  have HK4 := hidden (HK1.out.sub h5 HK1.out.lt)
  clear h1 h2 h3 h4 h5 HBW HK1
  go_wp2_with fail
  refine (HC.out _ HB4.out).mono ?_
  rintro e w5 ⟨rfl, rfl⟩
  clear HC
  go_wp2_with fail
  refine (HN.out w5 wp vg HB4.out HW4.out.1 HW4.out.2.1 HW4.out.2.2).mono ?_
  rintro e w6 ⟨mb, rfl, h1, h2, h3⟩
  have HB6 := hidden (HB4.out.trans (h3.mono HB4.out.size))
  have HK6 := hidden (HK4.out.sub h3 HK4.out.lt)
  have hmb : w.heap.size < mb := Nat.lt_of_lt_of_le HK4.out.lt h1
  have hwp : w.heap.size < wp := by
    have := HW4.out.2.1
    rcases Nat.lt_or_ge w.heap.size wp with h | h
    · exact h
    · exfalso
      obtain rfl : wp = w.heap.size := by omega
      exact absurd (blk_type HW4.out.1 HK4.out) (by decide)
  have HA6 := hidden h2
  have HMB := hidden (And.intro hmb hwp)
  clear h1 h2 h3 HN HB4 HW4 HK4 hmb hwp
  go_wp2_with fail
  refine (HR.out w6 _ HA6.out (HT.out.below HB6.out)).mono ?_
  rintro e w7 ⟨rfl, y, hy⟩
  obtain ⟨cs7, hk7, hc7⟩ := hy.at_.mac
  have hnS : ¬ RX.S ⟨mb, wp, .slice (some ⟨rg, 0, none⟩) rn rc, p, .slice none 0 0, .slice none 0 0, .slice (some ⟨vg, 0, none⟩) nn nn, .slice none 0 0, .slice a2 n2 c2⟩ w.heap.size := by
    rintro (e | e | e | e | e | e)
    · have := HMB.out.1; simp only at e; omega
    · have := HMB.out.2; simp only at e; omega
    · simp [Value.ownBlock] at e
    · simp [Value.ownBlock] at e
    · exact own_blk HA6.out.vrow HK6.out (by decide) e
    · simp [Value.ownBlock] at e
  have hk8 := HK6.out.chg hy.chg hnS
  have hlt1 := hk8.lt
  have q35 := hk7.cell 35 _ hc7.c35
  have q0 := hy.at_.wblk.cell 0 _ rfl
  have q1 := hy.at_.wblk.cell 1 _ rfl
  have hST := mach_stack (w := w7.drew) hk7 hc7.mc
  have hmbe := hy.mb
  have hwpe := hy.wp
  simp only at hmbe hwpe
  rw [hmbe] at hST q35
  rw [hwpe] at q35 q0 q1
  obtain ⟨vv, hvv⟩ : ∃ vv, vv = y.vv := ⟨_, rfl⟩
  obtain ⟨ov, hov⟩ : ∃ ov, ov = y.ov := ⟨_, rfl⟩
  rw [← hvv] at q0
  rw [← hov] at q1
  have hvr : IRow w.heap.size w7 vv ru.vars := by rw [hvv]; exact hy.at_.vrow
  have hor : IRow w.heap.size w7 ov ru.outs := by rw [hov]; exact hy.at_.orow
  have hsep : ∀ k, vv.ownBlock = some k → ov.ownBlock ≠ some k := by rw [hvv, hov]; exact hy.at_.sepv
  have hB7 : Below w.heap.size w w7 := HB6.out.trans (HA6.out.toBelow hy.chg (fun _ e => e))
  have hmb7 : mb < w7.heap.size := by rw [← hmbe]; exact hk7.lt
  have hwp7 : wp < w7.heap.size := by rw [← hwpe]; exact hy.at_.wblk.lt
  have HF := hidden (And.intro hvr (And.intro hor (And.intro hsep hB7))); have HK8 := hidden hk8; have HST := hidden hST
  obtain ⟨va, vn, vc, rfl⟩ := irow_shape hvr
  obtain ⟨oa, on, oc, rfl⟩ := irow_shape hor
  have k35 : ∀ u : {w' : World // w'.cell? ⟨mb, 35, none⟩ = some (.pointer (some ⟨wp, 0, none⟩)) ∧ w'.cell? ⟨wp, 0, none⟩ = some (.slice va vn vc) ∧ w'.cell? ⟨wp, 1, none⟩ = some (.slice oa on oc)}, u.val.cell? ⟨mb, 35, none⟩ = some (.pointer (some ⟨wp, 0, none⟩)) := fun u => u.property.1
  have k0 : ∀ u : {w' : World // w'.cell? ⟨mb, 35, none⟩ = some (.pointer (some ⟨wp, 0, none⟩)) ∧ w'.cell? ⟨wp, 0, none⟩ = some (.slice va vn vc) ∧ w'.cell? ⟨wp, 1, none⟩ = some (.slice oa on oc)}, u.val.cell? ⟨wp, 0, none⟩ = some (.slice va vn vc) := fun u => u.property.2.1
  have k1 : ∀ u : {w' : World // w'.cell? ⟨mb, 35, none⟩ = some (.pointer (some ⟨wp, 0, none⟩)) ∧ w'.cell? ⟨wp, 0, none⟩ = some (.slice va vn vc) ∧ w'.cell? ⟨wp, 1, none⟩ = some (.slice oa on oc)}, u.val.cell? ⟨wp, 1, none⟩ = some (.slice oa on oc) := fun u => u.property.2.2
  have hne : Nonempty {w' : World // w'.cell? ⟨mb, 35, none⟩ = some (.pointer (some ⟨wp, 0, none⟩)) ∧ w'.cell? ⟨wp, 0, none⟩ = some (.slice va vn vc) ∧ w'.cell? ⟨wp, 1, none⟩ = some (.slice oa on oc)} := ⟨⟨w7, q35, q0, q1⟩⟩
  have HQ := hidden (And.intro q35 (And.intro q0 q1))
  clear hk7 hc7 hnS hk8 q35 q0 q1 hST hvv hov hvr hor hsep hB7 hy HR HA6 HB6 HK6 HMB HT hmbe hwpe
  go_upto_region 10 with fail
  refine wp_region_order (C := OneOf fun w' => w'.cell? ⟨mb, 35, none⟩ = some (.pointer (some ⟨wp, 0, none⟩)) ∧ w'.cell? ⟨wp, 0, none⟩ = some (.slice va vn vc) ∧ w'.cell? ⟨wp, 1, none⟩ = some (.slice oa on oc)) 21 [0, 1, 2, 4, 5, 6, 7, 8, 9, 10, 11, 12, 13, 14, 15, 16, 17, 18, 19, 3, 20] [3] ⟨w7.drew, HQ.out⟩ (by kernel_rfl) (by kernel_rfl) rfl ?_
  repeat (refine wpT_step rfl rfl (fun K hK => ?_); go_simp; refine hK _ ?_; clear hK K)
  refine wpT_call1 rfl rfl 50 #[.pointer (some ⟨mb, 0, none⟩)] (by go_simp) (HST.out.mono ?_)
  rintro e w8 ⟨v, rfl, hr8, hb8⟩
  have hb8' : Below w7.heap.size w7 w8 := (Below.refl _ _).drew.trans hb8
  refine ⟨_, rfl, ⟨(hb8'.cell (p := ⟨mb, 35, none⟩) hmb7).trans HQ.out.1, (hb8'.cell (p := ⟨wp, 0, none⟩) hwp7).trans HQ.out.2.1, (hb8'.cell (p := ⟨wp, 1, none⟩) hwp7).trans HQ.out.2.2⟩, ?_⟩
  obtain ⟨hvr, hor, hsep, hB7⟩ := HF.out
  have hfin : RunOut w.heap.size w8 v (.slice oa on oc) (.slice va vn vc) rm ru := by
    have hir : ∀ {u : Value} {l : List Int}, IRow w.heap.size w7 u l → IRow w.heap.size w8 u l := fun h => ownsRow_chg h (Chg.ofBelow hb8') (fun _ _ e => e)
    have hge : ∀ k, v.ownBlock = some k → w7.heap.size ≤ k := fun k hk => own_base hr8 hk
    exact ⟨irow_base hr8 hB7.size, hir hor, hir hvr, fun k hk => ⟨fun e => by have := own_lt hor e; have := hge k hk; omega, fun e => by have := own_lt hvr e; have := hge k hk; omega⟩, fun k hk e => hsep k e hk⟩
  have HFIN : Hid (RunOut w.heap.size w8 v (.slice oa on oc) (.slice va vn vc) rm ru ∧ Below w.heap.size w w8) := hidden ⟨hfin, hB7.trans (hb8'.mono hB7.size)⟩
  have hk9 := HK8.out.sub hb8' hlt1
  have HK9 := hidden hk9
  obtain ⟨xa, xn, xc, rfl⟩ := irow_shape hr8
  clear hfin hvr hor hsep hB7 HF HST HK8 hk9
  repeat (refine wpT_step rfl rfl (fun K hK => ?_); go_simp; refine hK _ ?_; clear hK K)
  refine wpT_end ?_
  intro w' hw'
  rw [show w' = w8 from hw']
  clear hw' w' k0 k1 k35 hne hr8 hb8 hb8' HQ
  simp only [List.drop_succ_cons, List.drop_zero]
  have hlt9 := HK9.out.lt
  obtain ⟨g0, g1, g2, g3, g4⟩ := HK9.out.free
  obtain ⟨z0, z1, z2, z3, z4⟩ := HK9.out.outz
  go_wp2_with fail
  refine bodyPost_ret (v := .tuple #[outV (.slice xa xn xc) (.slice oa on oc) (.slice va vn vc) rsteps rend, .int .i64 0]) (by simp [results, Tryz.results21, go_sem, z0, z1, z2, z3, z4, outV, hlt9]) rfl ⟨_, _, _, rfl, ?_, ?_⟩
  · have hcc := (((((Chg.refl (fun b => b = w.heap.size) w8).setCell (p := ⟨w.heap.size, 0, none⟩) rfl (.slice xa xn xc)).setCell (p := ⟨w.heap.size, 1, none⟩) rfl (.slice oa on oc)).setCell (p := ⟨w.heap.size, 2, none⟩) rfl (.slice va vn vc)).setCell (p := ⟨w.heap.size, 3, none⟩) rfl (.int .i64 rsteps)).setCell (p := ⟨w.heap.size, 4, none⟩) rfl (.int .i64 rend)
    exact HFIN.out.1.chg hcc HK9.out (by decide)
  · exact (((((HFIN.out.2.setCell (Nat.le_refl _) _).setCell (Nat.le_refl _) _).setCell (Nat.le_refl _) _).setCell (Nat.le_refl _) _).setCell (Nat.le_refl _) _)

end Go.Proofs.YtcphhbofjkenaaaGreatDoor

namespace Go.Proofs.YtcphhbofjkenaaaGreatDoor
open Go Go.RowKit
set_option linter.unusedVariables false
set_option linter.unusedSimpArgs false
attribute [local go_sem] quietG

theorem keep_sameInts {w : World} {b1 b2 : Nat} {v1 v2 : Value} {l : List Int} (h1 : IRow b1 w v1 l) (h2 : IRow b2 w v2 l) (hl : l.length ≤ 2000000) :
    Calls Tryz.prog 51 #[v1, v2] w fun e w' => e = .returned (.bool true) ∧ Below w.heap.size w w' := by
  obtain ⟨a1, c1, rfl, hc1, _⟩ := row_shape h1
  obtain ⟨a2, c2, rfl, hc2, _⟩ := row_shape h2
  have k1 : ∀ (j : Nat) (hj : j < l.length), ∃ g, a1 = some ⟨g, 0, none⟩ ∧ g < w.heap.size ∧ w.cell? ⟨g, j, none⟩ = some (.int .i64 l[j]) := fun j hj => by
    obtain ⟨g, cap, hv, _, hg, _, _, hcc⟩ := row_cells h1 (by omega)
    exact ⟨g, by simpa using (by injection hv : a1 = some ⟨g, 0, none⟩), hg, hcc j _ (by simp [ints, hj])⟩
  have k2 : ∀ (j : Nat) (hj : j < l.length), ∃ g, a2 = some ⟨g, 0, none⟩ ∧ g < w.heap.size ∧ w.cell? ⟨g, j, none⟩ = some (.int .i64 l[j]) := fun j hj => by
    obtain ⟨g, cap, hv, _, hg, _, _, hcc⟩ := row_cells h2 (by omega)
    exact ⟨g, by simpa using (by injection hv : a2 = some ⟨g, 0, none⟩), hg, hcc j _ (by simp [ints, hj])⟩
  have K1 := hidden k1; have K2 := hidden k2
  clear h1 h2 k1 k2
  obtain ⟨n, hn⟩ : ∃ n, n = l.length := ⟨_, rfl⟩
  rw [← hn] at hc1 hc2 hl ⊢
  have HN := hidden hn
  clear hn
  have hee : ((n : Int) != (n : Int)) = false := by simp
  go_enter Tryz.func51, Tryz.ntmps51
  go_wp2_with fail
  go_loopw [5] (fun i wr => ∃ j : Nat, j ≤ n ∧ i = .int .i64 j ∧ Hid (Below w.heap.size w wr)) (fun i _ => n - (intOf i).toNat)
  case atStart => exact ⟨0, Nat.zero_le _, rfl, hidden (Below.refl _ _)⟩
  case round =>
    obtain ⟨j, hj, rfl, HW⟩ := hrel
    by_cases hlt : j < n
    · have hji : (j : Int) < (n : Int) := by omega
      have hj0 : (0 : Int) ≤ (j : Int) := by omega
      have hjl : j < l.length := by rw [← HN.out]; exact hlt
      obtain ⟨g1, rfl, hg1, x1⟩ := K1.out j hjl
      obtain ⟨g2, rfl, hg2, x2⟩ := K2.out j hjl
      obtain ⟨z, hz⟩ : ∃ z, z = l[j] := ⟨_, rfl⟩
      rw [← hz] at x1 x2
      have y1 : wr.cell? ⟨g1, j, none⟩ = some (.int .i64 z) := (HW.out.cell (p := ⟨g1, j, none⟩) hg1).trans x1
      have y2 : wr.cell? ⟨g2, j, none⟩ = some (.int .i64 z) := (HW.out.cell (p := ⟨g2, j, none⟩) hg2).trans x2
      have hzz : (z != z) = false := by simp
      clear hz x1 x2
      go_wp2_with fail
      go_quiet (fail)
      go_wp2_with fail
      go_roundw
      case rel => exact ⟨j + 1, by omega, by go_num, hidden (HW.out.trans ⟨rfl, rfl, rfl, Nat.le_refl _, fun _ _ => rfl⟩)⟩
      case measure => simp [intOf]; omega
    · obtain rfl : j = n := by omega
      have hji : ¬ (j : Int) < (j : Int) := by omega
      go_wp2_with fail
      go_ret
      exact ⟨rfl, HW.out⟩

structure OutK (B : Nat) (w : World) (xv ov vv : Value) (X O V : List Int) : Prop where
  s : IRow B w xv X
  o : IRow B w ov O
  v : IRow B w vv V
theorem OutK.below {B : Nat} {w w' : World} {xv ov vv : Value} {X O V : List Int} (h : OutK B w xv ov vv X O V) (hb : Below w.heap.size w w') : OutK B w' xv ov vv X O V :=
  have f : ∀ {v : Value} {l : List Int}, IRow B w v l → IRow B w' v l := fun h => ownsRow_chg h (Chg.ofBelow (S := fun _ => False) hb) (fun _ _ => id)
  ⟨f h.s, f h.o, f h.v⟩

set_option maxRecDepth 100000 in
set_option maxHeartbeats 4000000 in
theorem keep_alike {w : World} {B1 B2 : Nat} {xa oa va xa' oa' va' : Option Addr} {xn xc on oc vn vc xn' xc' on' oc' vn' vc' : Nat} {X O V : List Int} (N E : Int) (h1 : OutK B1 w (.slice xa xn xc) (.slice oa on oc) (.slice va vn vc) X O V) (h2 : OutK B2 w (.slice xa' xn' xc') (.slice oa' on' oc') (.slice va' vn' vc') X O V) (hx : X.length ≤ 2000000) (ho : O.length ≤ 2000000) (hv : V.length ≤ 2000000) :
    Calls Tryz.prog 22 #[.agg #[.slice xa xn xc, .slice oa on oc, .slice va vn vc, .int .i64 N, .int .i64 E], .agg #[.slice xa' xn' xc', .slice oa' on' oc', .slice va' vn' vc', .int .i64 N, .int .i64 E]] w fun e w' => e = .returned (.bool true) ∧ Below w.heap.size w w' := by
  obtain ⟨ab, hab⟩ : ∃ ab, ab = w.heap.size := ⟨_, rfl⟩
  obtain ⟨Y3, hY3⟩ : ∃ Y : World, Y = w.alloc (.cells #[.slice xa xn xc, .slice oa on oc, .slice va vn vc, .int .i64 N, .int .i64 E] 43 (0, 0)) := ⟨_, rfl⟩
  have hb3 : Below w.heap.size w Y3 := by rw [hY3]; exact (Below.refl _ _).alloc (Nat.le_refl _) _
  have hkA : Blk Y3 ab #[.slice xa xn xc, .slice oa on oc, .slice va vn vc, .int .i64 N, .int .i64 E] 43 := by rw [hY3, hab]; exact blk_new w _ _
  obtain ⟨bb, hbb⟩ : ∃ bb, bb = Y3.heap.size := ⟨_, rfl⟩
  obtain ⟨Y4, hY4⟩ : ∃ Y : World, Y = Y3.alloc (.cells #[.slice xa' xn' xc', .slice oa' on' oc', .slice va' vn' vc', .int .i64 N, .int .i64 E] 43 (0, 0)) := ⟨_, rfl⟩
  have hb4 : Below Y3.heap.size Y3 Y4 := by rw [hY4]; exact (Below.refl _ _).alloc (Nat.le_refl _) _
  have hkB : Blk Y4 bb #[.slice xa' xn' xc', .slice oa' on' oc', .slice va' vn' vc', .int .i64 N, .int .i64 E] 43 := by rw [hY4, hbb]; exact blk_new Y3 _ _
  have hb6 : Below w.heap.size w Y4 := hb3.trans (hb4.mono hb3.size)
  have hkA6 := hkA.sub hb4 hkA.lt
  have hR16 := h1.below hb6
  have hR26 := h2.below hb6
  have x0 : Y4.cell? ⟨ab, 0, none⟩ = some (.slice xa xn xc) := hkA6.cell 0 _ rfl
  have y0 : Y4.cell? ⟨bb, 0, none⟩ = some (.slice xa' xn' xc') := hkB.cell 0 _ rfl
  have HS1 := hidden (keep_sameInts hR16.s hR26.s hx)
  have HY3 := hidden hY3; have HY4 := hidden hY4; have HAB := hidden hab; have HBB : Hid (ab + 1 = bb) := hidden (by rw [hbb, hY3, hab]; simp)
  have HB6 := hidden hb6; have HKA6 := hidden hkA6; have HKB6 := hidden hkB; have HR16 := hidden hR16; have HR26 := hidden hR26
  have hla := hkA6.lt; have hlb := hkB.lt
  clear h1 h2 hab hY3 hb3 hkA hbb hY4 hb4 hkB hb6 hkA6 hR16 hR26
  go_enter Tryz.func22, Tryz.ntmps22
  go_upto_region 1 with fail
  rw [← HY3.out, ← HAB.out, HBB.out, ← HY4.out]
  go_wp2_with fail
  refine HS1.out.mono ?_
  rintro e w7 ⟨rfl, hb7⟩
  have hR17 := HR16.out.below hb7
  have hR27 := HR26.out.below hb7
  have hkA7 := HKA6.out.sub hb7 HKA6.out.lt
  have hkB7 := HKB6.out.sub hb7 HKB6.out.lt
  have x1 : w7.cell? ⟨ab, 1, none⟩ = some (.slice oa on oc) := hkA7.cell 1 _ rfl
  have y1 : w7.cell? ⟨bb, 1, none⟩ = some (.slice oa' on' oc') := hkB7.cell 1 _ rfl
  have HS2 := hidden (keep_sameInts hR17.o hR27.o ho)
  have HB7 := hidden (HB6.out.trans (hb7.mono HB6.out.size)); have HKA7 := hidden hkA7; have HKB7 := hidden hkB7; have HR17 := hidden hR17; have HR27 := hidden hR27
  clear hb7 hR17 hR27 hkA7 hkB7 HS1 HKA6 HKB6 HR16 HR26 HB6 x0 y0
  go_wp2_with fail
  refine HS2.out.mono ?_
  rintro e w8 ⟨rfl, hb8⟩
  have hR18 := HR17.out.below hb8
  have hR28 := HR27.out.below hb8
  have hkA8 := HKA7.out.sub hb8 HKA7.out.lt
  have hkB8 := HKB7.out.sub hb8 HKB7.out.lt
  have x2 : w8.cell? ⟨ab, 2, none⟩ = some (.slice va vn vc) := hkA8.cell 2 _ rfl
  have y2 : w8.cell? ⟨bb, 2, none⟩ = some (.slice va' vn' vc') := hkB8.cell 2 _ rfl
  have HS3 := hidden (keep_sameInts hR18.v hR28.v hv)
  have HB8 := hidden (HB7.out.trans (hb8.mono HB7.out.size)); have HKA8 := hidden hkA8; have HKB8 := hidden hkB8
  clear hb8 hR18 hR28 hkA8 hkB8 HS2 HKA7 HKB7 HR17 HR27 HB7 x1 y1
  go_wp2_with fail
  refine HS3.out.mono ?_
  rintro e w9 ⟨rfl, hb9⟩
  have hkA9 := HKA8.out.sub hb9 HKA8.out.lt
  have hkB9 := HKB8.out.sub hb9 HKB8.out.lt
  have x3 : w9.cell? ⟨ab, 3, none⟩ = some (.int .i64 N) := hkA9.cell 3 _ rfl
  have x4 : w9.cell? ⟨ab, 4, none⟩ = some (.int .i64 E) := hkA9.cell 4 _ rfl
  have y3 : w9.cell? ⟨bb, 3, none⟩ = some (.int .i64 N) := hkB9.cell 3 _ rfl
  have y4 : w9.cell? ⟨bb, 4, none⟩ = some (.int .i64 E) := hkB9.cell 4 _ rfl
  have HB9 := hidden (HB8.out.trans (hb9.mono HB8.out.size))
  have hnN : (N == N) = true := by simp
  have hnE : (E == E) = true := by simp
  clear hb9 hkA9 hkB9 HS3 HKA8 HKB8 HB8 x2 y2
  go_wp2_with fail
  go_ret
  exact ⟨rfl, HB9.out⟩

end Go.Proofs.YtcphhbofjkenaaaGreatDoor

namespace Go.Proofs.YtcphhbofjkenaaaGreatDoor
open Go Go.RowKit
set_option linter.unusedVariables false
set_option linter.unusedSimpArgs false

structure JX where
  mb : Nat
  st : Int
  lv : Value
  cv : Value
structure SX where
  wp : Nat
  rv : Value
  vv : Value
  ov : Value
  iv : Value
def JX.rx (j : JX) (s : SX) : RX := ⟨j.mb, s.wp, s.rv, j.st, j.lv, j.cv, s.vv, s.ov, s.iv⟩
def JX.J (j : JX) (b : Nat) : Prop := b = j.mb ∨ j.lv.ownBlock = some b ∨ j.cv.ownBlock = some b
def SX.W (s : SX) (b : Nat) : Prop := b = s.wp ∨ s.vv.ownBlock = some b ∨ s.ov.ownBlock = some b
theorem rx_S (j : JX) (s : SX) (b : Nat) : (j.rx s).S b ↔ j.J b ∨ s.W b := by
  unfold RX.S JX.J SX.W JX.rx
  constructor
  · rintro (e | e | e | e | e | e)
    · exact Or.inl (Or.inl e)
    · exact Or.inr (Or.inl e)
    · exact Or.inl (Or.inr (Or.inl e))
    · exact Or.inl (Or.inr (Or.inr e))
    · exact Or.inr (Or.inr (Or.inl e))
    · exact Or.inr (Or.inr (Or.inr e))
  · rintro ((e | e | e) | (e | e | e))
    · exact Or.inl e
    · exact Or.inr (Or.inr (Or.inl e))
    · exact Or.inr (Or.inr (Or.inr (Or.inl e)))
    · exact Or.inr (Or.inl e)
    · exact Or.inr (Or.inr (Or.inr (Or.inr (Or.inl e))))
    · exact Or.inr (Or.inr (Or.inr (Or.inr (Or.inr e))))

structure JAt (B : Nat) (w : World) (j : JX) (wp : Nat) (rv : Value) (code : List Int) (m : MS) : Prop where
  mac : ∃ cs, Blk w j.mb cs 116 ∧ CsAt (j.rx ⟨wp, rv, .slice none 0 0, .slice none 0 0, .slice none 0 0⟩) m cs
  lrow : LRow B w j.lv m.loops
  crow : IRow B w j.cv m.calls
  bm : B ≤ j.mb
  len : m.loops.length ≤ 2000000 ∧ m.calls.length ≤ 2000000 ∧ m.at_ ≤ code.length
structure WAt (B : Nat) (w : World) (s : SX) (code : List Int) (u : MW) : Prop where
  wblk : Blk w s.wp #[s.vv, s.ov, s.iv] 118
  vrow : IRow B w s.vv u.vars
  orow : IRow B w s.ov u.outs
  ins : InsAt B w s.iv u.ins
  cod : CodeAt B w s.rv code
  sepv : ∀ k, s.vv.ownBlock = some k → s.ov.ownBlock ≠ some k
  bw : B ≤ s.wp
  len : u.outs.length ≤ 2000000 ∧ u.ins.length ≤ 20000000000000 ∧ u.vars.length ≤ 1000 ∧ code.length ≤ 1000

section
variable {B : Nat} {w w' : World} {j : JX} {s : SX} {code : List Int} {m m' : MS} {u u' : MW}

theorem csAt_any {x y : RX} {cs : Array Value} (h : CsAt x m cs) (h1 : y.lv = x.lv) (h2 : y.cv = x.cv) (h3 : y.wp = x.wp) (h4 : y.rv = x.rv) (h5 : y.st = x.st) : CsAt y m cs :=
  ⟨h.mc, by rw [h1]; exact h.c33, by rw [h2]; exact h.c34, by rw [h3]; exact h.c35, by rw [h4]; exact h.c36, by rw [h5]; exact h.c37, h.c38⟩

theorem rAt_of (hj : JAt B w j s.wp s.rv code m) (hw : WAt B w s code u) (hs : ∀ b, j.J b → ¬ s.W b) : RAt B w (j.rx s) code m u := by
  obtain ⟨cs, k1, k2⟩ := hj.mac
  obtain ⟨l1, l2, l3⟩ := hj.len
  obtain ⟨o1, o2, o3, o4⟩ := hw.len
  refine ⟨⟨cs, k1, csAt_any k2 rfl rfl rfl rfl rfl⟩, hj.lrow, hj.crow, hw.wblk, hw.vrow, hw.orow, hw.ins, hw.cod, fun k hk => ?_, hw.sepv, hj.bm, hw.bw, l1, l2, o1, o2, o3, o4, l3⟩
  have := hs k (Or.inr (Or.inr hk))
  exact ⟨fun e => this (Or.inr (Or.inl e)), fun e => this (Or.inr (Or.inr e))⟩
theorem RAt.job {x : RX} (h : RAt B w x code m u) : JAt B w ⟨x.mb, x.st, x.lv, x.cv⟩ x.wp x.rv code m := by
  obtain ⟨cs, k1, k2⟩ := h.mac
  obtain ⟨l1, l2, _, _, _, _, l3⟩ := h.len
  exact ⟨⟨cs, k1, csAt_any k2 rfl rfl rfl rfl rfl⟩, h.lrow, h.crow, h.bm, l1, l2, l3⟩
theorem RAt.wld {x : RX} (h : RAt B w x code m u) : WAt B w ⟨x.wp, x.rv, x.vv, x.ov, x.iv⟩ code u := by
  obtain ⟨_, _, o1, o2, o3, o4, _⟩ := h.len
  exact ⟨h.wblk, h.vrow, h.orow, h.ins, h.cod, h.sepv, h.bw, o1, o2, o3, o4⟩
theorem RAt.sepJ {x : RX} (h : RAt B w x code m u) : ∀ b, (JX.mk x.mb x.st x.lv x.cv).J b → ¬ (SX.mk x.wp x.rv x.vv x.ov x.iv).W b := by
  obtain ⟨cs, k1, _⟩ := h.mac
  rintro b (e | e | e) (e' | e' | e')
  · have e1 : x.mb = x.wp := e.symm.trans e'
    rw [e1] at k1; exact absurd (blk_type k1 h.wblk) (by decide)
  · subst e; exact own_blk h.vrow k1 (by decide) e'
  · subst e; exact own_blk h.orow k1 (by decide) e'
  · subst e'; exact own_blk h.lrow h.wblk (by decide) e
  · exact own_own h.lrow h.vrow (by decide) e e'
  · exact own_own h.lrow h.orow (by decide) e e'
  · subst e'; exact own_blk h.crow h.wblk (by decide) e
  · exact (h.sepc b e).1 e'
  · exact (h.sepc b e).2 e'

theorem JAt.chg {wp : Nat} {rv : Value} {S : Nat → Prop} (h : JAt B w j wp rv code m) (hc : Chg S w w') (hn : ∀ b, j.J b → ¬ S b) : JAt B w' j wp rv code m := by
  obtain ⟨cs, k1, k2⟩ := h.mac
  exact ⟨⟨cs, k1.chg hc (hn _ (Or.inl rfl)), k2⟩, ownsRow_chg h.lrow hc (fun b hb => hn b (Or.inr (Or.inl hb))), ownsRow_chg h.crow hc (fun b hb => hn b (Or.inr (Or.inr hb))), h.bm, h.len⟩
theorem JAt.lt {wp : Nat} {rv : Value} (h : JAt B w j wp rv code m) {b : Nat} (hb : j.J b) : b < w.heap.size := by
  obtain ⟨cs, k1, k2⟩ := h.mac
  rcases hb with e | e | e
  · subst e; exact k1.lt
  · exact own_lt h.lrow e
  · exact own_lt h.crow e
theorem JAt.base {wp : Nat} {rv : Value} (h : JAt B w j wp rv code m) {b : Nat} (hb : j.J b) : B ≤ b := by
  rcases hb with e | e | e
  · subst e; exact h.bm
  · exact own_base h.lrow e
  · exact own_base h.crow e
theorem WAt.lt (h : WAt B w s code u) {b : Nat} (hb : s.W b) : b < w.heap.size := by
  rcases hb with e | e | e
  · subst e; exact h.wblk.lt
  · exact own_lt h.vrow e
  · exact own_lt h.orow e
theorem WAt.base (h : WAt B w s code u) {b : Nat} (hb : s.W b) : B ≤ b := by
  rcases hb with e | e | e
  · subst e; exact h.bw
  · exact own_base h.vrow e
  · exact own_base h.orow e
theorem WAt.chg {S : Nat → Prop} (h : WAt B w s code u) (hc : Chg S w w') (hn : ∀ b, s.W b → ¬ S b) (hB : ∀ b, S b → B ≤ b) : WAt B w' s code u := by
  have hb : Below B w w' := hc.toBelow (by have := h.wblk.lt; have := h.bw; omega) (fun b hb e => by have := hB b e; omega)
  exact ⟨h.wblk.chg hc (hn _ (Or.inl rfl)), ownsRow_chg h.vrow hc (fun b hb => hn b (Or.inr (Or.inl hb))), ownsRow_chg h.orow hc (fun b hb => hn b (Or.inr (Or.inr hb))), h.ins.below hb, h.cod.below hb, h.sepv, h.bw, h.len⟩

structure Fam (B : Nat) (w : World) (s : SX) (code : List Int) (u : MW) (js : List (JX × MS)) : Prop where
  wld : WAt B w s code u
  each : ∀ (i : Nat) (a : JX × MS), js[i]? = some a → JAt B w a.1 s.wp s.rv code a.2
  apart : ∀ (i k : Nat) (a b : JX × MS), js[i]? = some a → js[k]? = some b → i ≠ k → ∀ n, a.1.J n → ¬ b.1.J n
  sep : ∀ (i : Nat) (a : JX × MS), js[i]? = some a → ∀ n, a.1.J n → ¬ s.W n
def famS (s : SX) (js : List (JX × MS)) (b : Nat) : Prop := s.W b ∨ ∃ (i : Nat) (a : JX × MS), js[i]? = some a ∧ a.1.J b

theorem Fam.rAt {js : List (JX × MS)} (h : Fam B w s code u js) {i : Nat} {a : JX × MS} (hi : js[i]? = some a) : RAt B w (a.1.rx s) code a.2 u :=
  rAt_of (h.each i a hi) h.wld (h.sep i a hi)
theorem Fam.chg {js : List (JX × MS)} {S : Nat → Prop} (h : Fam B w s code u js) (hc : Chg S w w') (hn : ∀ b, famS s js b → ¬ S b) (hB : ∀ b, S b → B ≤ b) : Fam B w' s code u js :=
  ⟨h.wld.chg hc (fun b hb => hn b (Or.inl hb)) hB, fun i a hi => (h.each i a hi).chg hc (fun b hb => hn b (Or.inr ⟨i, a, hi, hb⟩)), h.apart, h.sep⟩
theorem Fam.base {js : List (JX × MS)} (h : Fam B w s code u js) {b : Nat} (hb : famS s js b) : B ≤ b := by
  rcases hb with e | ⟨i, a, hi, e⟩
  · exact h.wld.base e
  · exact (h.each i a hi).base e

theorem Fam.step {js : List (JX × MS)} {y : RX} (h : Fam B w s code u js) {i : Nat} {a : JX × MS} (hi : js[i]? = some a) (hn : RN B w (a.1.rx s) code m' u' w' y) :
    Fam B w' ⟨s.wp, s.rv, s.vv, y.ov, y.iv⟩ code u' (js.set i (⟨a.1.mb, a.1.st, y.lv, y.cv⟩, m')) ∧ (∀ b, famS ⟨s.wp, s.rv, s.vv, y.ov, y.iv⟩ (js.set i (⟨a.1.mb, a.1.st, y.lv, y.cv⟩, m')) b → famS s js b ∨ w.heap.size ≤ b) ∧ Chg (famS s js) w w' := by
  have e1 : y.mb = a.1.mb := hn.mb
  have e2 : y.wp = s.wp := hn.wp
  have e3 : y.rv = s.rv := hn.rv
  have e4 : y.st = a.1.st := hn.st
  have e5 : y.vv = s.vv := hn.vv
  have hR := hn.at_
  have hlt : i < js.length := (List.getElem?_eq_some_iff.1 hi).1
  have hJ : JAt B w' ⟨a.1.mb, a.1.st, y.lv, y.cv⟩ s.wp s.rv code m' := by have := hR.job; rw [e1, e2, e3, e4] at this; exact this
  have hW : WAt B w' ⟨s.wp, s.rv, s.vv, y.ov, y.iv⟩ code u' := by have := hR.wld; rw [e2, e3, e5] at this; exact this
  have hs : ∀ b, (JX.mk a.1.mb a.1.st y.lv y.cv).J b → ¬ (SX.mk s.wp s.rv s.vv y.ov y.iv).W b := by have := hR.sepJ; rw [e1, e2, e3, e4, e5] at this; exact this
  have jn : ∀ b, (JX.mk a.1.mb a.1.st y.lv y.cv).J b → a.1.J b ∨ w.heap.size ≤ b := by
    rintro b (e | e | e)
    · exact Or.inl (Or.inl e)
    · exact (hn.lv b e).imp (fun e => Or.inr (Or.inl e)) id
    · exact (hn.cv b e).imp (fun e => Or.inr (Or.inr e)) id
  have wn : ∀ b, (SX.mk s.wp s.rv s.vv y.ov y.iv).W b → s.W b ∨ w.heap.size ≤ b := by
    rintro b (e | e | e)
    · exact Or.inl (Or.inl e)
    · exact Or.inl (Or.inr (Or.inl e))
    · exact (hn.ov b e).imp (fun e => Or.inr (Or.inr e)) id
  have hget : ∀ (k : Nat) (c : JX × MS), (js.set i (⟨a.1.mb, a.1.st, y.lv, y.cv⟩, m'))[k]? = some c → (k = i ∧ c = (⟨a.1.mb, a.1.st, y.lv, y.cv⟩, m')) ∨ (k ≠ i ∧ js[k]? = some c) := fun k c hk => by
    by_cases hki : k = i
    · subst hki
      rw [List.getElem?_set_self hlt] at hk
      exact Or.inl ⟨rfl, (Option.some.inj hk).symm⟩
    · rw [List.getElem?_set_ne (fun e => hki e.symm)] at hk
      exact Or.inr ⟨hki, hk⟩
  have oth : ∀ (k : Nat) (c : JX × MS), k ≠ i → js[k]? = some c → ∀ b, c.1.J b → ¬ (a.1.rx s).S b := fun k c hk hc b hb e => by
    rcases (rx_S a.1 s b).1 e with e | e
    · exact h.apart k i c a hc hi hk b hb e
    · exact h.sep k c hc b hb e
  refine ⟨⟨hW, fun k c hk => ?_, fun k l c d hk hl hne b hb hd => ?_, fun k c hk b hb e => ?_⟩, fun b hb => ?_, hn.chg.mono (fun b _ e => ?_)⟩
  · rcases hget k c hk with ⟨_, rfl⟩ | ⟨hki, hk⟩
    · exact hJ
    · exact (h.each k c hk).chg hn.chg (oth k c hki hk)
  · rcases hget k c hk with ⟨e, rfl⟩ | ⟨hki, hk⟩
    · rcases hget l d hl with ⟨e', rfl⟩ | ⟨hli, hl⟩
      · exact hne (e.trans e'.symm)
      · rcases jn b hb with e2 | e2
        · exact h.apart i l a d hi hl (fun e => hli e.symm) b e2 hd
        · have := (h.each l d hl).lt hd; omega
    · rcases hget l d hl with ⟨e', rfl⟩ | ⟨hli, hl⟩
      · rcases jn b hd with e2 | e2
        · exact h.apart k i c a hk hi hki b hb e2
        · have := (h.each k c hk).lt hb; omega
      · exact h.apart k l c d hk hl hne b hb hd
  · rcases hget k c hk with ⟨_, rfl⟩ | ⟨hki, hk⟩
    · exact hs b hb e
    · rcases wn b e with e2 | e2
      · exact h.sep k c hk b hb e2
      · have := (h.each k c hk).lt hb; omega
  · rcases hb with e | ⟨k, c, hk, e⟩
    · exact (wn b e).imp Or.inl id
    · rcases hget k c hk with ⟨_, rfl⟩ | ⟨hki, hk⟩
      · exact (jn b e).imp (fun e => Or.inr ⟨i, a, hi, e⟩) id
      · exact Or.inl (Or.inr ⟨k, c, hk, e⟩)
  · rcases (rx_S a.1 s b).1 e with e | e
    · exact Or.inr ⟨i, a, hi, e⟩
    · exact Or.inl e
end

end Go.Proofs.YtcphhbofjkenaaaGreatDoor

namespace Go.Proofs.YtcphhbofjkenaaaGreatDoor
open Go Go.RowKit
set_option linter.unusedVariables false
set_option linter.unusedSimpArgs false

structure EV where
  kind : Int
  task : Int
  tick : Int
  val : Int
def EV.cells (e : EV) : List Value := [.int .i64 e.kind, .int .i64 e.task, .int .i64 e.tick, .int .i64 e.val]
theorem EV.one (e : EV) : ∀ u ∈ e.cells, u.oneCell' = true := by
  intro u hu
  simp only [EV.cells, List.mem_cons, List.not_mem_nil, or_false] at hu
  rcases hu with rfl | rfl | rfl | rfl <;> rfl
def ev0 : Value := .agg #[.int .i64 0, .int .i64 0, .int .i64 0, .int .i64 0]
theorem Tryz.infoEv : (Tryz.prog.info? 69).map (fun i => (i.zero, i.size, i.bytes)) = some (some ev0, 4, 32) := by kernel_rfl
abbrev ERow (B : Nat) (w : World) (v : Value) (l : List EV) : Prop := w.ownsRow B 69 4 v l.length (l.flatMap EV.cells)

structure JT where
  word : ByteArray
  per : Int
  dl : Int
  off : Int
  st : Nat
def jobC (mb : Nat) (t : JT) (n : Int) (busy : Bool) : Array Value := #[.pointer (some ⟨mb, 0, none⟩), .string t.word, .int .i64 t.per, .int .i64 t.dl, .int .i64 t.off, .int .i64 n, .bool busy]
def dueP (t : JT) (tick : Int) : Bool := decide (t.off ≤ tick) && ((tick - t.off) % t.per == 0)

section
attribute [local go_sem] quietG
set_option maxRecDepth 100000 in
set_option maxHeartbeats 4000000 in
theorem job_due {w : World} {jb mb : Nat} {t : JT} {n : Int} {busy : Bool} (tick : Int) (hb : Blk w jb (jobC mb t n busy) 170) (p1 : 1 ≤ t.per) (p2 : t.per ≤ 1000000) (o1 : 0 ≤ t.off) (o2 : t.off ≤ 1000000) (k1 : 0 ≤ tick) (k2 : tick ≤ 1000000) :
    Calls Tryz.prog 83 #[.pointer (some ⟨jb, 0, none⟩), .int .i64 tick] w fun e w' => e = .returned (.bool (dueP t tick)) ∧ Below w.heap.size w w' := by
  obtain ⟨wd, per, dl, off, st⟩ := t
  simp only at p1 p2 o1 o2
  have c2 : w.cell? ⟨jb, 2, none⟩ = some (.int .i64 per) := hb.cell 2 _ rfl
  have c4 : w.cell? ⟨jb, 4, none⟩ = some (.int .i64 off) := hb.cell 4 _ rfl
  have hlt := hb.lt
  obtain ⟨D, hD⟩ : ∃ D, D = dueP ⟨wd, per, dl, off, st⟩ tick := ⟨_, rfl⟩
  rw [← hD]
  have HD : Hid (D = (decide (off ≤ tick) && ((tick - off) % per == 0))) := hidden hD
  clear hD hb
  by_cases h : off ≤ tick
  · have hd : decide (off ≤ tick) = true := decide_eq_true h
    have hm : (tick - off).tmod per = (tick - off) % per := Int.tmod_eq_emod_of_nonneg (by omega)
    obtain ⟨q, hq⟩ : ∃ q, q = (tick - off) % per := ⟨_, rfl⟩
    have hm0 : 0 ≤ q := by rw [hq]; exact Int.emod_nonneg _ (by omega)
    have hm1 : q < per := by rw [hq]; exact Int.emod_lt_of_pos _ (by omega)
    rw [← hq] at hm
    have HE : Hid (D = (q == 0)) := hidden (by rw [HD.out, hd, hq]; simp)
    clear hq HD
    go_enter Tryz.func83, Tryz.ntmps83
    go_wp2_with fail
    go_quiet (fail)
    go_wp2_with fail
    go_ret
    exact ⟨by rw [HE.out]; rfl, ⟨rfl, rfl, rfl, Nat.le_refl _, fun _ _ => rfl⟩⟩
  · have hd : decide (off ≤ tick) = false := decide_eq_false h
    have HE : Hid (D = false) := hidden (by rw [HD.out, hd]; rfl)
    clear HD
    go_enter Tryz.func83, Tryz.ntmps83
    go_wp2_with fail
    go_quiet (fail)
    go_wp2_with fail
    go_ret
    exact ⟨by rw [HE.out]; rfl, ⟨rfl, rfl, rfl, Nat.le_refl _, fun _ _ => rfl⟩⟩
end

set_option maxRecDepth 100000 in
set_option maxHeartbeats 4000000 in
theorem turns_note {B : Nat} {w : World} {tb jb mb : Nat} {wv bn br ev : Value} {es : List EV} {t : JT} {n : Int} {busy : Bool} (kind tick val : Int) (hb : Blk w tb #[wv, bn, br, ev] 139) (hr : ERow B w ev es) (hj : Blk w jb (jobC mb t n busy) 170) (hl : es.length ≤ 90000000) (hB : B ≤ w.heap.size) :
    Calls Tryz.prog 84 #[.pointer (some ⟨tb, 0, none⟩), .int .i64 kind, .pointer (some ⟨jb, 0, none⟩), .int .i64 tick, .int .i64 val] w fun e w' => e = .returned (.tuple #[]) ∧ (∃ ev', Blk w' tb #[wv, bn, br, ev'] 139 ∧ ERow B w' ev' (es ++ [⟨kind, n, tick, val⟩]) ∧ Lc w ev ev') ∧ Chg (fun b => b = tb ∨ ev.ownBlock = some b) w w' := by
  obtain ⟨ad, cap, hev, hcap, _⟩ := row_shape hr
  subst hev
  have c3 : w.cell? ⟨tb, 3, none⟩ = some (.slice ad es.length cap) := hb.cell 3 _ rfl
  have q3 := hb.frozen 3
  have j5 : w.cell? ⟨jb, 5, none⟩ = some (.int .i64 n) := hj.cell 5 _ rfl
  have hlt := hb.lt
  have hjl := hj.lt
  have hne := own_blk hr hb (by decide)
  obtain ⟨i0, hi, hz0, hz1, hz2⟩ := info_parts Tryz.infoEv
  have HN := hidden hne; have HBT := hidden hb; have HRW := hidden hr
  have HA := hidden (fun o => (hr.alloc o).drew)
  have H1 := hidden (EV.one ⟨kind, n, tick, val⟩)
  have HC := hidden (show es.length + 1 ≤ maxLen by unfold maxLen; omega)
  have HDD := hidden (show (es.length + 1) * 32 ≤ 140737488355328 by omega)
  have HE2 := hidden (fun o => show B ≤ (w.alloc o).drew.heap.size by simp; omega)
  have HH := hidden (fun o => show (w.alloc o).drew.heap.size = w.heap.size + 1 by simp)
  have HNW := hidden (show ∀ j u, ([.int .i64 kind, .int .i64 n, .int .i64 tick, .int .i64 val] : List Value)[j]? = some u → (w.alloc (.cells #[.int .i64 kind, .int .i64 n, .int .i64 tick, .int .i64 val] 69 (0, 0))).drew.cell? ((Addr.mk w.heap.size 0 none).add j) = some u from World.news_of_block (fr := (0, 0)) (heap_alloc_new w _))
  have HF := hidden (fun (o : Obj) (w1 : World) (hg : (w.alloc o).drew.grownBy w1 (Value.slice ad es.length cap).ownBlock) => (show w1.frozen? ⟨tb, 3, none⟩ = false ∧ w1.cell? ⟨tb, 3, none⟩ = some (.slice ad es.length cap) from ⟨(hg.frozen_far ⟨tb, 3, none⟩ (by simp; omega) (fun e => HN.out e.symm)).trans ((((Below.refl _ w).alloc (Nat.le_refl _) o).drew.frozen (p := ⟨tb, 3, none⟩) hlt).trans q3), (hg.cell_far ⟨tb, 3, none⟩ (by simp; omega) (fun e => HN.out e.symm)).trans ((((Below.refl _ w).alloc (Nat.le_refl _) o).drew.cell (p := ⟨tb, 3, none⟩) hlt).trans c3)⟩))
  clear hb hr hj hne
  go_enter Tryz.func84, Tryz.ntmps84
  go_region_law (refine step_append_lies _ (by rfl) _ _ _ (by rfl) B 69 i0 ev0 4 32 Tryz.underlying60 hi hz0 hz1 hz2 rfl (by decide) _ es.length (es.flatMap EV.cells) (by rfl) (HA.out _) (Addr.mk w.heap.size 0 none) 1 1 [.int .i64 kind, .int .i64 n, .int .i64 tick, .int .i64 val] (by rfl) (by rfl) HNW.out H1.out (by decide) HC.out HDD.out (HE2.out _) (w.heap.size + 1) (HH.out _) ?_; intro gg cap1 w1 hown1 hgrow hat hlt1; obtain ⟨q4, c4⟩ := HF.out _ _ hgrow)
  all_goals
    go_wp2_with fail
    go_end0
    have hcg : Chg (fun k => (Value.slice ad es.length cap).ownBlock = some k) w w1 := ((Chg.refl _ w).alloc _).drew.trans ((Chg.ofGrown hgrow).mono (fun k _ e => e.symm))
    have hb2 := HBT.out.chg hcg HN.out
    have hne2 : (Value.slice (some ⟨gg, 0, none⟩) (es.length + 1) cap1).ownBlock ≠ some tb := own_blk hown1 hb2 (by decide)
    have hset : Chg (fun b => b = tb) w1 (w1.setCell ⟨tb, 3, none⟩ (.slice (some ⟨gg, 0, none⟩) (es.length + 1) cap1)) := (Chg.refl (fun b => b = tb) w1).setCell (p := ⟨tb, 3, none⟩) rfl _
    refine ⟨rfl, ⟨.slice (some ⟨gg, 0, none⟩) (es.length + 1) cap1, ?_, ?_, ?_⟩, (hcg.mono (fun k _ e => Or.inr e)).trans (hset.mono (fun b _ e => Or.inl e))⟩
    · have := hb2.set (o := 3) (.slice (some ⟨gg, 0, none⟩) (es.length + 1) cap1); simpa using this
    · show World.ownsRow _ _ _ _ _ _ _
      rw [List.length_append, List.length_singleton, List.flatMap_append]
      exact ownsRow_chg hown1 hset (fun b hb e => hne2 (by rw [hb, e]))
    · intro k hk
      simp only [Value.ownBlock, Option.some.injEq] at hk
      subst hk
      exact hat.imp id (fun e => by omega)

end Go.Proofs.YtcphhbofjkenaaaGreatDoor
