import Derived.Test.YtcphhbofjkenaaaGreatDoorU20
namespace Go.Proofs.YtcphhbofjkenaaaGreatDoor
set_option maxRecDepth 100000
set_option maxHeartbeats 16000000
open Go Go.RowKit
set_option linter.unusedVariables false
set_option linter.unusedSimpArgs false
attribute [local go_sem] quietG
section
variable {B : Nat} {w w' : World} {x : RX} {code : List Int} {m m' : MS} {u u' : MW}
theorem RAt.reads {v : Int} (h : RAt B w x code m u) (hv : code[m.at_]? = some v) : ∃ g n cap, w.cell? ⟨x.mb, 36, none⟩ = some (.slice (some ⟨g, 0, none⟩) n cap) ∧ w.cell? ⟨g, m.at_, none⟩ = some (.int .i64 v) ∧ g < w.heap.size ∧ m.at_ < n ∧ n ≤ cap ∧ n ≤ 1000 ∧ n = code.length := by
 have c36 := h.c36
 have hle := h.le
 obtain ⟨g, cap, hrv, hcap, hg, hcell⟩ := h.cod
 rw [hrv] at c36
 exact ⟨g, code.length, cap, c36, hcell _ _ hv, by omega, (List.getElem?_eq_some_iff.1 hv).1, hcap, h.len.2.2.2.2.2.1, rfl⟩
theorem step_hind {k : Nat} (hk : k < 35) (h : RAt B w x code m u) (ht : Tab w) (hop : code[m.at_]? = some (k : Int)) {R : Int} (hh : hindP k m.stk u.vars.length = R) (hR : R ≠ 4) :
  Calls Tryz.prog 74 #[.pointer (some ⟨x.mb, 0, none⟩)] w fun e w' => e = .returned (.int .i64 R) ∧ RNext B w x code m u w' := by
 have hRb : (R != 4) = true := by simp [hR]
 have HHI := hidden (fun (w' : World) (hb : Below w.heap.size w w') => mach_hind k (by omega) (h.below hb).at_ (ht.below hb))
 rw [hh] at HHI
 obtain ⟨g, n, cap, c36, cg, hg, hn, hnc, hn1, hnl⟩ := h.reads hop
 obtain ⟨c38, _, hmb⟩ := h.c38
 have H := hidden h
 obtain ⟨q, hq⟩ : ∃ q, q = m.at_ := ⟨_, rfl⟩
 rw [← hq] at cg hn c38
 have HQ := hidden hq; have HNL := hidden hnl
 have hqi : (q : Int) < (n : Int) := by omega
 have hq0 : (0 : Int) ≤ (q : Int) := by omega
 have hqb : (q : Int) ≤ 1000 := by omega
 clear h ht hop hq hnl
 go_enter Tryz.func74, Tryz.ntmps74
 go_wp2_with fail
 go_quiet (fail)
 have hbq : Below w.heap.size w (w.drewN nq) := ⟨rfl, rfl, rfl, Nat.le_refl _, fun _ _ => rfl⟩
 obtain ⟨V, hV⟩ : ∃ V : World, V = w.drewN nq := ⟨_, rfl⟩
 rw [← hV] at hbq
 rw [← hV]
 have HV := hidden (HHI.out V hbq)
 have HBQ := hidden hbq
 clear hV hbq HHI c36 cg c38
 go_wp2_with fail
 refine HV.out.mono ?_
 rintro e w1 ⟨rfl, hb1⟩
 have HB1 := hidden (HBQ.out.trans (hb1.mono HBQ.out.size))
 clear hb1 HV
 go_wp2_with fail
 go_ret
 exact ⟨rfl, _, H.out.below HB1.out⟩
theorem step_two {k : Nat} (hk : k ≤ 12) (h : RAt B w x code m u) (ht : Tab w) (hop : code[m.at_]? = some (k : Int)) (hh : hindP k m.stk u.vars.length = 4) {a b : Int} {s : List Int} (hs : m.stk = b :: a :: s) (ha : Cell a) (hb : Cell b) :
  Calls Tryz.prog 74 #[.pointer (some ⟨x.mb, 0, none⟩)] w fun e w' => e = .returned (.int .i64 4) ∧ RNext B w x code { m with stk := twoP k a b :: s, at_ := m.at_ + 1 } u w' := by
 have hki : (k : Int) ≤ 12 := by omega
 have hl := h.c32.2
 rw [hs] at hl
 simp only [List.length_cons] at hl
 have HS := hidden hs
 have HTW := hidden (fun w => mach_two k hk ha hb w)
 obtain ⟨r, hr⟩ : ∃ r, r = twoP k a b := ⟨_, rfl⟩
 rw [← hr] at HTW ⊢
 clear hs hr
 have HHI := hidden (fun (w' : World) (hb : Below w.heap.size w w') => mach_hind k (by omega) (h.below hb).at_ (ht.below hb))
 rw [hh] at HHI
 obtain ⟨g, n, cap, c36, cg, hg, hn, hnc, hn1, hnl⟩ := h.reads hop
 obtain ⟨c38, _, hmb⟩ := h.c38
 have H := hidden h
 obtain ⟨q, hq⟩ : ∃ q, q = m.at_ := ⟨_, rfl⟩
 rw [← hq] at cg hn c38
 have HQ := hidden hq; have HNL := hidden hnl
 have hqi : (q : Int) < (n : Int) := by omega
 have hq0 : (0 : Int) ≤ (q : Int) := by omega
 have hqb : (q : Int) ≤ 1000 := by omega
 clear h ht hop hq hnl
 go_enter Tryz.func74, Tryz.ntmps74
 go_wp2_with fail
 go_quiet (fail)
 have hbq : Below w.heap.size w (w.drewN nq) := ⟨rfl, rfl, rfl, Nat.le_refl _, fun _ _ => rfl⟩
 obtain ⟨V, hV⟩ : ∃ V : World, V = w.drewN nq := ⟨_, rfl⟩
 rw [← hV] at hbq
 rw [← hV]
 have HV := hidden (HHI.out V hbq)
 have HBQ := hidden hbq
 clear hV hbq HHI c36 cg c38
 go_wp2_with fail
 refine HV.out.mono ?_
 rintro e w1 ⟨rfl, hb1⟩
 have hA1 := H.out.below (HBQ.out.trans (hb1.mono HBQ.out.size))
 obtain ⟨c38, f38, hm1⟩ := hA1.at_.c38
 rw [← HQ.out] at c38
 have hS := hA1.at_.setAt (q + 1) (by have := HNL.out; omega)
 obtain ⟨X, hX⟩ : ∃ X : World, X = w1.setCell ⟨x.mb, 38, none⟩ (.int .i64 ((q : Int) + 1)) := ⟨_, rfl⟩
 have hcast : (((q + 1 : Nat) : Int)) = (q : Int) + 1 := by omega
 rw [hcast, ← hX] at hS
 have HN := hidden (hA1.trans hS); have HX := hidden hX
 have hmX := hS.at_.c38.2.2
 clear hb1 HV hA1 hS hX hcast
 go_upto_region 7 with fail
 rw [← HX.out]
 clear c38 f38
 have hD := HN.out.at_.below (Below.drew (Below.refl X.heap.size X))
 have HD := hidden hD
 have hne : Nonempty {w' : World // True} := ⟨⟨w, trivial⟩⟩
 clear hD
 rw [HQ.out] at HN HD
 go_upto_region 8 with fail
 refine wp_region_order (C := OneOf fun _ => True) 8 [0, 1, 2, 4, 5, 6, 3, 7] [3, 7] ⟨X.drew, trivial⟩ (by kernel_rfl) (by kernel_rfl) rfl ?_
 repeat (refine wpT_step rfl rfl (fun K hK => ?_); go_simp; refine hK _ ?_; clear hK K)
 refine wpT_call1 rfl rfl 108 #[.pointer (some ⟨x.mb, 0, none⟩)] (by go_simp) ((HD.out.at_.take HS.out).mono ?_)
 rintro e w2 ⟨rfl, hn2⟩
 refine ⟨_, rfl, trivial, ?_⟩
 refine wpT_call1 rfl rfl 108 #[.pointer (some ⟨x.mb, 0, none⟩)] (by go_simp) ((hn2.at_.take rfl).mono ?_)
 rintro e w3 ⟨rfl, hn3⟩
 refine ⟨_, rfl, trivial, wpT_end ?_⟩
 intro w' hw'
 rw [show w' = w3 from hw']
 have HN3 := hidden (((HN.out.trans HD.out).trans hn2).trans hn3)
 have hD3 := hn3.at_.below (Below.drew (Below.refl w3.heap.size w3))
 have HD3 := hidden hD3
 clear hw' w' hn2 hn3 hD3
 simp only [List.drop_succ_cons, List.drop_zero]
 go_upto_region 9 with fail
 refine wp_region_turns (C := OneOf fun _ => True) 8 [6, 7] ⟨w3.drew, trivial⟩ (by kernel_rfl) (by kernel_rfl) rfl ?_
 rw [show List.range 8 = [0, 1, 2, 3, 4, 5, 6, 7] from rfl]
 repeat (refine wpT_step rfl rfl (fun K hK => ?_); go_simp; refine hK _ ?_; clear hK K)
 refine wpT_call1 rfl rfl 109 #[.int .i64 k, .int .i64 a, .int .i64 b] (by go_simp) ((HTW.out _).mono ?_)
 rintro e w4 ⟨rfl, rfl⟩
 refine ⟨_, rfl, trivial, ?_⟩
 refine wpT_turn1 rfl rfl (.slice (some ⟨w3.drew.heap.size, 0, none⟩) 1 1) (w3.drew.alloc (.cells #[.int .i64 r] 3 (0, 0))) trivial (Or.inl (by go_simp)) ?_
 refine wpT_end ?_
 intro w' hw'
 rw [show w' = w3.drew.alloc (.cells #[.int .i64 r] 3 (0, 0)) from hw']
 clear hw' w' hne
 have HPT := hidden (RAt.puts [r] HD3.out.at_ (by simp only; omega) (by simp only [List.length_cons, List.length_nil]; omega))
 simp only [List.drop_succ_cons, List.drop_zero]
 go_wp2_with fail
 refine HPT.out.mono ?_
 rintro e wz ⟨rfl, hz⟩
 have HZ := hidden ((HN3.out.trans HD3.out).trans hz)
 clear hz HPT
 go_wp2_with fail
 go_ret
 exact ⟨rfl, _, HZ.out⟩
theorem step_one {k : Nat} (hk1 : 13 ≤ k) (hk : k ≤ 15) (h : RAt B w x code m u) (ht : Tab w) (hop : code[m.at_]? = some (k : Int)) (hh : hindP k m.stk u.vars.length = 4) {a : Int} {s : List Int} (hs : m.stk = a :: s) (ha : Cell a) :
  Calls Tryz.prog 74 #[.pointer (some ⟨x.mb, 0, none⟩)] w fun e w' => e = .returned (.int .i64 4) ∧ RNext B w x code { m with stk := oneP k a :: s, at_ := m.at_ + 1 } u w' := by
 have hki : (k : Int) ≤ 15 := by omega
 have hki2 : ¬ (k : Int) ≤ 12 := by omega
 have hl := h.c32.2
 rw [hs] at hl
 simp only [List.length_cons] at hl
 have HS := hidden hs
 have HTW := hidden (fun w => mach_one k hk1 hk ha w)
 obtain ⟨r, hr⟩ : ∃ r, r = oneP k a := ⟨_, rfl⟩
 rw [← hr] at HTW ⊢
 clear hs hr
 have HHI := hidden (fun (w' : World) (hb : Below w.heap.size w w') => mach_hind k (by omega) (h.below hb).at_ (ht.below hb))
 rw [hh] at HHI
 obtain ⟨g, n, cap, c36, cg, hg, hn, hnc, hn1, hnl⟩ := h.reads hop
 obtain ⟨c38, _, hmb⟩ := h.c38
 have H := hidden h
 obtain ⟨q, hq⟩ : ∃ q, q = m.at_ := ⟨_, rfl⟩
 rw [← hq] at cg hn c38
 have HQ := hidden hq; have HNL := hidden hnl
 have hqi : (q : Int) < (n : Int) := by omega
 have hq0 : (0 : Int) ≤ (q : Int) := by omega
 have hqb : (q : Int) ≤ 1000 := by omega
 clear h ht hop hq hnl
 go_enter Tryz.func74, Tryz.ntmps74
 go_wp2_with fail
 go_quiet (fail)
 have hbq : Below w.heap.size w (w.drewN nq) := ⟨rfl, rfl, rfl, Nat.le_refl _, fun _ _ => rfl⟩
 obtain ⟨V, hV⟩ : ∃ V : World, V = w.drewN nq := ⟨_, rfl⟩
 rw [← hV] at hbq
 rw [← hV]
 have HV := hidden (HHI.out V hbq)
 have HBQ := hidden hbq
 clear hV hbq HHI c36 cg c38
 go_wp2_with fail
 refine HV.out.mono ?_
 rintro e w1 ⟨rfl, hb1⟩
 have hA1 := H.out.below (HBQ.out.trans (hb1.mono HBQ.out.size))
 obtain ⟨c38, f38, hm1⟩ := hA1.at_.c38
 rw [← HQ.out] at c38
 have hS := hA1.at_.setAt (q + 1) (by have := HNL.out; omega)
 obtain ⟨X, hX⟩ : ∃ X : World, X = w1.setCell ⟨x.mb, 38, none⟩ (.int .i64 ((q : Int) + 1)) := ⟨_, rfl⟩
 have hcast : (((q + 1 : Nat) : Int)) = (q : Int) + 1 := by omega
 rw [hcast, ← hX] at hS
 have HN := hidden (hA1.trans hS); have HX := hidden hX
 have hmX := hS.at_.c38.2.2
 clear hb1 HV hA1 hS hX hcast
 go_upto_region 7 with fail
 rw [← HX.out]
 clear c38 f38
 have hD := HN.out.at_.below (Below.drew (Below.refl X.heap.size X))
 have HD := hidden hD
 have hne : Nonempty {w' : World // True} := ⟨⟨w, trivial⟩⟩
 clear hD
 rw [HQ.out] at HN HD
 go_upto_region 11 with fail
 refine wp_region_turns (C := OneOf fun _ => True) 10 [7, 8, 9] ⟨X.drew, trivial⟩ (by kernel_rfl) (by kernel_rfl) rfl ?_
 rw [show List.range 10 = [0, 1, 2, 3, 4, 5, 6, 7, 8, 9] from rfl]
 repeat (refine wpT_step rfl rfl (fun K hK => ?_); go_simp; refine hK _ ?_; clear hK K)
 refine wpT_call1 rfl rfl 108 #[.pointer (some ⟨x.mb, 0, none⟩)] (by go_simp) ((HD.out.at_.take HS.out).mono ?_)
 rintro e w3 ⟨rfl, hn3⟩
 refine ⟨_, rfl, trivial, ?_⟩
 refine wpT_call1 rfl rfl 110 #[.int .i64 k, .int .i64 a] (by go_simp) ((HTW.out _).mono ?_)
 rintro e w4 ⟨rfl, rfl⟩
 refine ⟨_, rfl, trivial, ?_⟩
 refine wpT_turn1 rfl rfl (.slice (some ⟨w4.heap.size, 0, none⟩) 1 1) (w4.alloc (.cells #[.int .i64 r] 3 (0, 0))) trivial (Or.inl (by go_simp)) ?_
 refine wpT_end ?_
 intro w' hw'
 rw [show w' = w4.alloc (.cells #[.int .i64 r] 3 (0, 0)) from hw']
 clear hw' w' hne
 have HN3 := hidden ((HN.out.trans HD.out).trans hn3)
 have HPT := hidden (RAt.puts [r] hn3.at_ (by simp only; omega) (by simp only [List.length_cons, List.length_nil]; omega))
 clear hn3
 simp only [List.drop_succ_cons, List.drop_zero]
 go_wp2_with fail
 refine HPT.out.mono ?_
 rintro e wz ⟨rfl, hz⟩
 have HZ := hidden (HN3.out.trans hz)
 clear hz HPT
 go_wp2_with fail
 go_ret
 exact ⟨rfl, _, HZ.out⟩
theorem step_arr {k : Nat} (hk1 : 16 ≤ k) (hk : k ≤ 22) (h : RAt B w x code m u) (ht : Tab w) (hop : code[m.at_]? = some (k : Int)) (hh : hindP k m.stk u.vars.length = 4) (hin : ∀ w1, RAt B w1 x code { m with at_ := m.at_ + 1 } u → Calls Tryz.prog 111 #[.pointer (some ⟨x.mb, 0, none⟩), .int .i64 k] w1 fun e w2 => e = .returned (.tuple #[]) ∧ RNext B w1 x code m' u' w2) :
  Calls Tryz.prog 74 #[.pointer (some ⟨x.mb, 0, none⟩)] w fun e w' => e = .returned (.int .i64 4) ∧ RNext B w x code m' u' w' := by
 have hki : (k : Int) ≤ 22 := by omega
 have hki2 : ¬ (k : Int) ≤ 12 := by omega
 have hki3 : ¬ (k : Int) ≤ 15 := by omega
 have HIN := hidden hin
 clear hin
 have HHI := hidden (fun (w' : World) (hb : Below w.heap.size w w') => mach_hind k (by omega) (h.below hb).at_ (ht.below hb))
 rw [hh] at HHI
 obtain ⟨g, n, cap, c36, cg, hg, hn, hnc, hn1, hnl⟩ := h.reads hop
 obtain ⟨c38, _, hmb⟩ := h.c38
 have H := hidden h
 obtain ⟨q, hq⟩ : ∃ q, q = m.at_ := ⟨_, rfl⟩
 rw [← hq] at cg hn c38
 have HQ := hidden hq; have HNL := hidden hnl
 have hqi : (q : Int) < (n : Int) := by omega
 have hq0 : (0 : Int) ≤ (q : Int) := by omega
 have hqb : (q : Int) ≤ 1000 := by omega
 clear h ht hop hq hnl
 go_enter Tryz.func74, Tryz.ntmps74
 go_wp2_with fail
 go_quiet (fail)
 have hbq : Below w.heap.size w (w.drewN nq) := ⟨rfl, rfl, rfl, Nat.le_refl _, fun _ _ => rfl⟩
 obtain ⟨V, hV⟩ : ∃ V : World, V = w.drewN nq := ⟨_, rfl⟩
 rw [← hV] at hbq
 rw [← hV]
 have HV := hidden (HHI.out V hbq)
 have HBQ := hidden hbq
 clear hV hbq HHI c36 cg c38
 go_wp2_with fail
 refine HV.out.mono ?_
 rintro e w1 ⟨rfl, hb1⟩
 have hA1 := H.out.below (HBQ.out.trans (hb1.mono HBQ.out.size))
 obtain ⟨c38, f38, hm1⟩ := hA1.at_.c38
 rw [← HQ.out] at c38
 have hS := hA1.at_.setAt (q + 1) (by have := HNL.out; omega)
 obtain ⟨X, hX⟩ : ∃ X : World, X = w1.setCell ⟨x.mb, 38, none⟩ (.int .i64 ((q : Int) + 1)) := ⟨_, rfl⟩
 have hcast : (((q + 1 : Nat) : Int)) = (q : Int) + 1 := by omega
 rw [hcast, ← hX] at hS
 have HN := hidden (hA1.trans hS); have HX := hidden hX
 have hmX := hS.at_.c38.2.2
 clear hb1 HV hA1 hS hX hcast
 go_upto_region 7 with fail
 rw [← HX.out]
 clear c38 f38
 rw [HQ.out] at HN
 have HI := hidden (HIN.out X HN.out.at_)
 clear HIN
 go_wp2_with fail
 refine HI.out.mono ?_
 rintro e w2 ⟨rfl, y, hy⟩
 have HZ := hidden (HN.out.trans hy)
 clear hy HI
 go_wp2_with fail
 go_ret
 exact ⟨rfl, _, HZ.out⟩
theorem step_deal {k : Nat} (hk1 : 23 ≤ k) (hk : k ≤ 26) (h : RAt B w x code m u) (ht : Tab w) (hop : code[m.at_]? = some (k : Int)) (hh : hindP k m.stk u.vars.length = 4) (hin : ∀ w1, RAt B w1 x code { m with at_ := m.at_ + 1 } u → Calls Tryz.prog 112 #[.pointer (some ⟨x.mb, 0, none⟩), .int .i64 k] w1 fun e w2 => e = .returned (.tuple #[]) ∧ RNext B w1 x code m' u' w2) :
  Calls Tryz.prog 74 #[.pointer (some ⟨x.mb, 0, none⟩)] w fun e w' => e = .returned (.int .i64 4) ∧ RNext B w x code m' u' w' := by
 have hki : (k : Int) ≤ 26 := by omega
 have hki2 : ¬ (k : Int) ≤ 12 := by omega
 have hki3 : ¬ (k : Int) ≤ 15 := by omega
 have hki4 : ¬ (k : Int) ≤ 22 := by omega
 have HIN := hidden hin
 clear hin
 have HHI := hidden (fun (w' : World) (hb : Below w.heap.size w w') => mach_hind k (by omega) (h.below hb).at_ (ht.below hb))
 rw [hh] at HHI
 obtain ⟨g, n, cap, c36, cg, hg, hn, hnc, hn1, hnl⟩ := h.reads hop
 obtain ⟨c38, _, hmb⟩ := h.c38
 have H := hidden h
 obtain ⟨q, hq⟩ : ∃ q, q = m.at_ := ⟨_, rfl⟩
 rw [← hq] at cg hn c38
 have HQ := hidden hq; have HNL := hidden hnl
 have hqi : (q : Int) < (n : Int) := by omega
 have hq0 : (0 : Int) ≤ (q : Int) := by omega
 have hqb : (q : Int) ≤ 1000 := by omega
 clear h ht hop hq hnl
 go_enter Tryz.func74, Tryz.ntmps74
 go_wp2_with fail
 go_quiet (fail)
 have hbq : Below w.heap.size w (w.drewN nq) := ⟨rfl, rfl, rfl, Nat.le_refl _, fun _ _ => rfl⟩
 obtain ⟨V, hV⟩ : ∃ V : World, V = w.drewN nq := ⟨_, rfl⟩
 rw [← hV] at hbq
 rw [← hV]
 have HV := hidden (HHI.out V hbq)
 have HBQ := hidden hbq
 clear hV hbq HHI c36 cg c38
 go_wp2_with fail
 refine HV.out.mono ?_
 rintro e w1 ⟨rfl, hb1⟩
 have hA1 := H.out.below (HBQ.out.trans (hb1.mono HBQ.out.size))
 obtain ⟨c38, f38, hm1⟩ := hA1.at_.c38
 rw [← HQ.out] at c38
 have hS := hA1.at_.setAt (q + 1) (by have := HNL.out; omega)
 obtain ⟨X, hX⟩ : ∃ X : World, X = w1.setCell ⟨x.mb, 38, none⟩ (.int .i64 ((q : Int) + 1)) := ⟨_, rfl⟩
 have hcast : (((q + 1 : Nat) : Int)) = (q : Int) + 1 := by omega
 rw [hcast, ← hX] at hS
 have HN := hidden (hA1.trans hS); have HX := hidden hX
 have hmX := hS.at_.c38.2.2
 clear hb1 HV hA1 hS hX hcast
 go_upto_region 7 with fail
 rw [← HX.out]
 clear c38 f38
 rw [HQ.out] at HN
 have HI := hidden (HIN.out X HN.out.at_)
 clear HIN
 go_wp2_with fail
 refine HI.out.mono ?_
 rintro e w2 ⟨rfl, y, hy⟩
 have HZ := hidden (HN.out.trans hy)
 clear hy HI
 go_wp2_with fail
 go_ret
 exact ⟨rfl, _, HZ.out⟩
theorem step_jump {k : Nat} (hk1 : 29 ≤ k) (hk : k ≤ 33) (h : RAt B w x code m u) (ht : Tab w) (hop : code[m.at_]? = some (k : Int)) (hh : hindP k m.stk u.vars.length = 4) (hin : ∀ w1, RAt B w1 x code { m with at_ := m.at_ + 1 } u → Calls Tryz.prog 116 #[.pointer (some ⟨x.mb, 0, none⟩), .int .i64 k] w1 fun e w2 => e = .returned (.tuple #[]) ∧ RNext B w1 x code m' u' w2) :
  Calls Tryz.prog 74 #[.pointer (some ⟨x.mb, 0, none⟩)] w fun e w' => e = .returned (.int .i64 4) ∧ RNext B w x code m' u' w' := by
 have hki : ¬ (k : Int) ≤ 26 := by omega
 have hki2 : ¬ (k : Int) ≤ 12 := by omega
 have hki3 : ¬ (k : Int) ≤ 15 := by omega
 have hki4 : ¬ (k : Int) ≤ 22 := by omega
 have hki5 : ((k : Int) == 27) = false := by simp; omega
 have hki6 : ((k : Int) == 28) = false := by simp; omega
 have hki7 : ((k : Int) == 34) = false := by simp; omega
 have HIN := hidden hin
 clear hin
 have HHI := hidden (fun (w' : World) (hb : Below w.heap.size w w') => mach_hind k (by omega) (h.below hb).at_ (ht.below hb))
 rw [hh] at HHI
 obtain ⟨g, n, cap, c36, cg, hg, hn, hnc, hn1, hnl⟩ := h.reads hop
 obtain ⟨c38, _, hmb⟩ := h.c38
 have H := hidden h
 obtain ⟨q, hq⟩ : ∃ q, q = m.at_ := ⟨_, rfl⟩
 rw [← hq] at cg hn c38
 have HQ := hidden hq; have HNL := hidden hnl
 have hqi : (q : Int) < (n : Int) := by omega
 have hq0 : (0 : Int) ≤ (q : Int) := by omega
 have hqb : (q : Int) ≤ 1000 := by omega
 clear h ht hop hq hnl
 go_enter Tryz.func74, Tryz.ntmps74
 go_wp2_with fail
 go_quiet (fail)
 have hbq : Below w.heap.size w (w.drewN nq) := ⟨rfl, rfl, rfl, Nat.le_refl _, fun _ _ => rfl⟩
 obtain ⟨V, hV⟩ : ∃ V : World, V = w.drewN nq := ⟨_, rfl⟩
 rw [← hV] at hbq
 rw [← hV]
 have HV := hidden (HHI.out V hbq)
 have HBQ := hidden hbq
 clear hV hbq HHI c36 cg c38
 go_wp2_with fail
 refine HV.out.mono ?_
 rintro e w1 ⟨rfl, hb1⟩
 have hA1 := H.out.below (HBQ.out.trans (hb1.mono HBQ.out.size))
 obtain ⟨c38, f38, hm1⟩ := hA1.at_.c38
 rw [← HQ.out] at c38
 have hS := hA1.at_.setAt (q + 1) (by have := HNL.out; omega)
 obtain ⟨X, hX⟩ : ∃ X : World, X = w1.setCell ⟨x.mb, 38, none⟩ (.int .i64 ((q : Int) + 1)) := ⟨_, rfl⟩
 have hcast : (((q + 1 : Nat) : Int)) = (q : Int) + 1 := by omega
 rw [hcast, ← hX] at hS
 have HN := hidden (hA1.trans hS); have HX := hidden hX
 have hmX := hS.at_.c38.2.2
 clear hb1 HV hA1 hS hX hcast
 go_upto_region 7 with fail
 rw [← HX.out]
 clear c38 f38
 rw [HQ.out] at HN
 have HI := hidden (HIN.out X HN.out.at_)
 clear HIN
 go_wp2_with fail
 refine HI.out.mono ?_
 rintro e w2 ⟨rfl, y, hy⟩
 have HZ := hidden (HN.out.trans hy)
 clear hy HI
 go_wp2_with fail
 go_ret
 exact ⟨rfl, _, HZ.out⟩
theorem step_index (h : RAt B w x code m u) (ht : Tab w) (hop : code[m.at_]? = some (27 : Int)) (hh : hindP 27 m.stk u.vars.length = 4) {l : List (Int × Int)} {a b : Int} (hs : m.loops = l ++ [(a, b)]) (hl : m.stk.length < 32) :
  Calls Tryz.prog 74 #[.pointer (some ⟨x.mb, 0, none⟩)] w fun e w' => e = .returned (.int .i64 4) ∧ RNext B w x code { m with stk := a :: m.stk, at_ := m.at_ + 1 } u w' := by
 have HS := hidden hs
 clear hs
 have HHI := hidden (fun (w' : World) (hb : Below w.heap.size w w') => mach_hind 27 (by omega) (h.below hb).at_ (ht.below hb))
 rw [hh] at HHI
 obtain ⟨g, n, cap, c36, cg, hg, hn, hnc, hn1, hnl⟩ := h.reads hop
 obtain ⟨c38, _, hmb⟩ := h.c38
 have H := hidden h
 obtain ⟨q, hq⟩ : ∃ q, q = m.at_ := ⟨_, rfl⟩
 rw [← hq] at cg hn c38
 have HQ := hidden hq; have HNL := hidden hnl
 have hqi : (q : Int) < (n : Int) := by omega
 have hq0 : (0 : Int) ≤ (q : Int) := by omega
 have hqb : (q : Int) ≤ 1000 := by omega
 clear h ht hop hq hnl
 go_enter Tryz.func74, Tryz.ntmps74
 go_wp2_with fail
 go_quiet (fail)
 have hbq : Below w.heap.size w (w.drewN nq) := ⟨rfl, rfl, rfl, Nat.le_refl _, fun _ _ => rfl⟩
 obtain ⟨V, hV⟩ : ∃ V : World, V = w.drewN nq := ⟨_, rfl⟩
 rw [← hV] at hbq
 rw [← hV]
 have HV := hidden (HHI.out V hbq)
 have HBQ := hidden hbq
 clear hV hbq HHI c36 cg c38
 go_wp2_with fail
 refine HV.out.mono ?_
 rintro e w1 ⟨rfl, hb1⟩
 have hA1 := H.out.below (HBQ.out.trans (hb1.mono HBQ.out.size))
 obtain ⟨c38, f38, hm1⟩ := hA1.at_.c38
 rw [← HQ.out] at c38
 have hS := hA1.at_.setAt (q + 1) (by have := HNL.out; omega)
 obtain ⟨X, hX⟩ : ∃ X : World, X = w1.setCell ⟨x.mb, 38, none⟩ (.int .i64 ((q : Int) + 1)) := ⟨_, rfl⟩
 have hcast : (((q + 1 : Nat) : Int)) = (q : Int) + 1 := by omega
 rw [hcast, ← hX] at hS
 have HN := hidden (hA1.trans hS); have HX := hidden hX
 have hmX := hS.at_.c38.2.2
 clear hb1 HV hA1 hS hX hcast
 go_upto_region 7 with fail
 rw [← HX.out]
 clear c38 f38
 have hD := HN.out.at_.below (Below.drew (Below.refl X.heap.size X))
 have HD := hidden hD
 have hne : Nonempty {w' : World // True} := ⟨⟨w, trivial⟩⟩
 clear hD
 rw [HQ.out] at HN HD
 go_upto_region 17 with fail
 refine wp_region_turns (C := OneOf fun _ => True) 8 [6, 7] ⟨X.drew, trivial⟩ (by kernel_rfl) (by kernel_rfl) rfl ?_
 rw [show List.range 8 = [0, 1, 2, 3, 4, 5, 6, 7] from rfl]
 repeat (refine wpT_step rfl rfl (fun K hK => ?_); go_simp; refine hK _ ?_; clear hK K)
 refine wpT_call1 rfl rfl 113 #[.pointer (some ⟨x.mb, 33, none⟩)] (by go_simp) ((HD.out.at_.number HS.out).mono ?_)
 rintro e w4 ⟨rfl, hb4⟩
 have hn3 := HD.out.at_.below hb4
 refine ⟨_, rfl, trivial, ?_⟩
 refine wpT_turn1 rfl rfl (.slice (some ⟨w4.heap.size, 0, none⟩) 1 1) (w4.alloc (.cells #[.int .i64 a] 3 (0, 0))) trivial (Or.inl (by go_simp)) ?_
 refine wpT_end ?_
 intro w' hw'
 rw [show w' = w4.alloc (.cells #[.int .i64 a] 3 (0, 0)) from hw']
 clear hw' w' hne
 have HN3 := hidden ((HN.out.trans HD.out).trans hn3)
 have HPT := hidden (RAt.puts [a] hn3.at_ hl (by simp only [List.length_cons, List.length_nil]; omega))
 clear hn3 hb4
 simp only [List.drop_succ_cons, List.drop_zero]
 go_wp2_with fail
 refine HPT.out.mono ?_
 rintro e wz ⟨rfl, hz⟩
 have HZ := hidden (HN3.out.trans hz)
 clear hz HPT
 go_wp2_with fail
 go_ret
 exact ⟨rfl, _, HZ.out⟩
theorem step_push (h : RAt B w x code m u) (ht : Tab w) (hop : code[m.at_]? = some (28 : Int)) (hh : hindP 28 m.stk u.vars.length = 4) {a : Int} (hs : code[m.at_ + 1]? = some a) (hl : m.stk.length < 32) :
  Calls Tryz.prog 74 #[.pointer (some ⟨x.mb, 0, none⟩)] w fun e w' => e = .returned (.int .i64 4) ∧ RNext B w x code { m with stk := a :: m.stk, at_ := m.at_ + 2 } u w' := by
 have HS := hidden hs
 clear hs
 have HHI := hidden (fun (w' : World) (hb : Below w.heap.size w w') => mach_hind 28 (by omega) (h.below hb).at_ (ht.below hb))
 rw [hh] at HHI
 obtain ⟨g, n, cap, c36, cg, hg, hn, hnc, hn1, hnl⟩ := h.reads hop
 obtain ⟨c38, _, hmb⟩ := h.c38
 have H := hidden h
 obtain ⟨q, hq⟩ : ∃ q, q = m.at_ := ⟨_, rfl⟩
 rw [← hq] at cg hn c38
 have HQ := hidden hq; have HNL := hidden hnl
 have hqi : (q : Int) < (n : Int) := by omega
 have hq0 : (0 : Int) ≤ (q : Int) := by omega
 have hqb : (q : Int) ≤ 1000 := by omega
 clear h ht hop hq hnl
 go_enter Tryz.func74, Tryz.ntmps74
 go_wp2_with fail
 go_quiet (fail)
 have hbq : Below w.heap.size w (w.drewN nq) := ⟨rfl, rfl, rfl, Nat.le_refl _, fun _ _ => rfl⟩
 obtain ⟨V, hV⟩ : ∃ V : World, V = w.drewN nq := ⟨_, rfl⟩
 rw [← hV] at hbq
 rw [← hV]
 have HV := hidden (HHI.out V hbq)
 have HBQ := hidden hbq
 clear hV hbq HHI c36 cg c38
 go_wp2_with fail
 refine HV.out.mono ?_
 rintro e w1 ⟨rfl, hb1⟩
 have hA1 := H.out.below (HBQ.out.trans (hb1.mono HBQ.out.size))
 obtain ⟨c38, f38, hm1⟩ := hA1.at_.c38
 rw [← HQ.out] at c38
 have hS := hA1.at_.setAt (q + 1) (by have := HNL.out; omega)
 obtain ⟨X, hX⟩ : ∃ X : World, X = w1.setCell ⟨x.mb, 38, none⟩ (.int .i64 ((q : Int) + 1)) := ⟨_, rfl⟩
 have hcast : (((q + 1 : Nat) : Int)) = (q : Int) + 1 := by omega
 rw [hcast, ← hX] at hS
 have HN := hidden (hA1.trans hS); have HX := hidden hX
 have hmX := hS.at_.c38.2.2
 clear hb1 HV hA1 hS hX hcast
 go_upto_region 7 with fail
 rw [← HX.out]
 clear c38 f38
 have hD := HN.out.at_.below (Below.drew (Below.refl X.heap.size X))
 have HD := hidden hD
 have hne : Nonempty {w' : World // True} := ⟨⟨w, trivial⟩⟩
 clear hD
 rw [HQ.out] at HN HD
 go_upto_region 19 with fail
 refine wp_region_turns (C := OneOf fun _ => True) 6 [4, 5] ⟨X.drew, trivial⟩ (by kernel_rfl) (by kernel_rfl) rfl ?_
 rw [show List.range 6 = [0, 1, 2, 3, 4, 5] from rfl]
 repeat (refine wpT_step rfl rfl (fun K hK => ?_); go_simp; refine hK _ ?_; clear hK K)
 refine wpT_call1 rfl rfl 114 #[.pointer (some ⟨x.mb, 0, none⟩)] (by go_simp) ((HD.out.at_.operand HS.out).mono ?_)
 rintro e w4 ⟨rfl, hn3⟩
 refine ⟨_, rfl, trivial, ?_⟩
 refine wpT_turn1 rfl rfl (.slice (some ⟨w4.heap.size, 0, none⟩) 1 1) (w4.alloc (.cells #[.int .i64 a] 3 (0, 0))) trivial (Or.inl (by go_simp)) ?_
 refine wpT_end ?_
 intro w' hw'
 rw [show w' = w4.alloc (.cells #[.int .i64 a] 3 (0, 0)) from hw']
 clear hw' w' hne
 have HN3 := hidden ((HN.out.trans HD.out).trans hn3)
 have HPT := hidden (RAt.puts [a] hn3.at_ hl (by simp only [List.length_cons, List.length_nil]; omega))
 clear hn3
 simp only [List.drop_succ_cons, List.drop_zero]
 go_wp2_with fail
 refine HPT.out.mono ?_
 rintro e wz ⟨rfl, hz⟩
 have HZ := hidden (HN3.out.trans hz)
 clear hz HPT
 go_wp2_with fail
 go_ret
 exact ⟨rfl, _, HZ.out⟩
theorem step_end0 (h : RAt B w x code m u) (ht : Tab w) (hop : code[m.at_]? = some (34 : Int)) (hh : hindP 34 m.stk u.vars.length = 4) (hc : m.calls = []) :
  Calls Tryz.prog 74 #[.pointer (some ⟨x.mb, 0, none⟩)] w fun e w' => e = .returned (.int .i64 0) ∧ RNext B w x code { m with at_ := m.at_ + 1 } u w' := by
 have HCC := hidden hc
 clear hc
 have HHI := hidden (fun (w' : World) (hb : Below w.heap.size w w') => mach_hind 34 (by omega) (h.below hb).at_ (ht.below hb))
 rw [hh] at HHI
 obtain ⟨g, n, cap, c36, cg, hg, hn, hnc, hn1, hnl⟩ := h.reads hop
 obtain ⟨c38, _, hmb⟩ := h.c38
 have H := hidden h
 obtain ⟨q, hq⟩ : ∃ q, q = m.at_ := ⟨_, rfl⟩
 rw [← hq] at cg hn c38
 have HQ := hidden hq; have HNL := hidden hnl
 have hqi : (q : Int) < (n : Int) := by omega
 have hq0 : (0 : Int) ≤ (q : Int) := by omega
 have hqb : (q : Int) ≤ 1000 := by omega
 clear h ht hop hq hnl
 go_enter Tryz.func74, Tryz.ntmps74
 go_wp2_with fail
 go_quiet (fail)
 have hbq : Below w.heap.size w (w.drewN nq) := ⟨rfl, rfl, rfl, Nat.le_refl _, fun _ _ => rfl⟩
 obtain ⟨V, hV⟩ : ∃ V : World, V = w.drewN nq := ⟨_, rfl⟩
 rw [← hV] at hbq
 rw [← hV]
 have HV := hidden (HHI.out V hbq)
 have HBQ := hidden hbq
 clear hV hbq HHI c36 cg c38
 go_wp2_with fail
 refine HV.out.mono ?_
 rintro e w1 ⟨rfl, hb1⟩
 have hA1 := H.out.below (HBQ.out.trans (hb1.mono HBQ.out.size))
 obtain ⟨c38, f38, hm1⟩ := hA1.at_.c38
 rw [← HQ.out] at c38
 have hS := hA1.at_.setAt (q + 1) (by have := HNL.out; omega)
 obtain ⟨X, hX⟩ : ∃ X : World, X = w1.setCell ⟨x.mb, 38, none⟩ (.int .i64 ((q : Int) + 1)) := ⟨_, rfl⟩
 have hcast : (((q + 1 : Nat) : Int)) = (q : Int) + 1 := by omega
 rw [hcast, ← hX] at hS
 have HN := hidden (hA1.trans hS); have HX := hidden hX
 have hmX := hS.at_.c38.2.2
 clear hb1 HV hA1 hS hX hcast
 go_upto_region 7 with fail
 rw [← HX.out]
 clear c38 f38
 rw [HQ.out] at HN
 have HI := hidden (mach_leave0 HN.out.at_ HCC.out)
 go_wp2_with fail
 refine HI.out.mono ?_
 rintro e w2 ⟨rfl, rfl⟩
 clear HI
 go_wp2_with fail
 go_ret
 exact ⟨rfl, _, HN.out⟩
theorem step_end (h : RAt B w x code m u) (ht : Tab w) (hop : code[m.at_]? = some (34 : Int)) (hh : hindP 34 m.stk u.vars.length = 4) {l : List Int} {p : Nat} (hc : m.calls = l ++ [(p : Int)]) (hp : p ≤ code.length) :
  Calls Tryz.prog 74 #[.pointer (some ⟨x.mb, 0, none⟩)] w fun e w' => e = .returned (.int .i64 4) ∧ RNext B w x code { m with calls := l, at_ := p } u w' := by
 have HCC := hidden hc
 clear hc
 have HHI := hidden (fun (w' : World) (hb : Below w.heap.size w w') => mach_hind 34 (by omega) (h.below hb).at_ (ht.below hb))
 rw [hh] at HHI
 obtain ⟨g, n, cap, c36, cg, hg, hn, hnc, hn1, hnl⟩ := h.reads hop
 obtain ⟨c38, _, hmb⟩ := h.c38
 have H := hidden h
 obtain ⟨q, hq⟩ : ∃ q, q = m.at_ := ⟨_, rfl⟩
 rw [← hq] at cg hn c38
 have HQ := hidden hq; have HNL := hidden hnl
 have hqi : (q : Int) < (n : Int) := by omega
 have hq0 : (0 : Int) ≤ (q : Int) := by omega
 have hqb : (q : Int) ≤ 1000 := by omega
 clear h ht hop hq hnl
 go_enter Tryz.func74, Tryz.ntmps74
 go_wp2_with fail
 go_quiet (fail)
 have hbq : Below w.heap.size w (w.drewN nq) := ⟨rfl, rfl, rfl, Nat.le_refl _, fun _ _ => rfl⟩
 obtain ⟨V, hV⟩ : ∃ V : World, V = w.drewN nq := ⟨_, rfl⟩
 rw [← hV] at hbq
 rw [← hV]
 have HV := hidden (HHI.out V hbq)
 have HBQ := hidden hbq
 clear hV hbq HHI c36 cg c38
 go_wp2_with fail
 refine HV.out.mono ?_
 rintro e w1 ⟨rfl, hb1⟩
 have hA1 := H.out.below (HBQ.out.trans (hb1.mono HBQ.out.size))
 obtain ⟨c38, f38, hm1⟩ := hA1.at_.c38
 rw [← HQ.out] at c38
 have hS := hA1.at_.setAt (q + 1) (by have := HNL.out; omega)
 obtain ⟨X, hX⟩ : ∃ X : World, X = w1.setCell ⟨x.mb, 38, none⟩ (.int .i64 ((q : Int) + 1)) := ⟨_, rfl⟩
 have hcast : (((q + 1 : Nat) : Int)) = (q : Int) + 1 := by omega
 rw [hcast, ← hX] at hS
 have HN := hidden (hA1.trans hS); have HX := hidden hX
 have hmX := hS.at_.c38.2.2
 clear hb1 HV hA1 hS hX hcast
 go_upto_region 7 with fail
 rw [← HX.out]
 clear c38 f38
 rw [HQ.out] at HN
 have HI := hidden (mach_leave HN.out.at_ HCC.out hp)
 go_wp2_with fail
 refine HI.out.mono ?_
 rintro e w2 ⟨rfl, y, hy⟩
 have HZ := hidden (HN.out.trans hy)
 clear hy HI
 go_wp2_with fail
 go_ret
 exact ⟨rfl, _, HZ.out⟩
end
end Go.Proofs.YtcphhbofjkenaaaGreatDoor
namespace Go.Proofs.YtcphhbofjkenaaaGreatDoor
set_option maxRecDepth 100000
set_option maxHeartbeats 16000000
open Go Go.RowKit
set_option linter.unusedVariables false
set_option linter.unusedSimpArgs false
def execM (k : Nat) (v : Int) (m : MS) (u : MW) : Int × MS × MW :=
 if k ≤ 12 then
  match m.stk with
  | b :: a :: s => (4, { m with stk := twoP k a b :: s, at_ := m.at_ + 1 }, u)
  | _ => (4, m, u)
 else if k ≤ 15 then
  match m.stk with
  | a :: s => (4, { m with stk := oneP k a :: s, at_ := m.at_ + 1 }, u)
  | _ => (4, m, u)
 else if k ≤ 22 then (4, { m with stk := arrP k m.stk, at_ := m.at_ + 1 }, u)
 else if k = 23 then
  match m.stk with
  | i :: s => (4, { m with stk := u.vars.getD i.toNat 0 :: s, at_ := m.at_ + 1 }, u)
  | _ => (4, m, u)
 else if k = 24 then
  match m.stk with
  | i :: a :: s => (4, { m with stk := s, at_ := m.at_ + 1 }, { u with vars := u.vars.set i.toNat a })
  | _ => (4, m, u)
 else if k = 25 then (4, { m with stk := u.ins.headD 0 :: m.stk, at_ := m.at_ + 1 }, { u with ins := u.ins.tail })
 else if k = 26 then
  match m.stk with
  | a :: s => (4, { m with stk := s, at_ := m.at_ + 1 }, { u with outs := u.outs ++ [a] })
  | _ => (4, m, u)
 else if k = 27 then (4, { m with stk := (m.loops.getLastD (0, 0)).1 :: m.stk, at_ := m.at_ + 1 }, u)
 else if k = 28 then (4, { m with stk := v :: m.stk, at_ := m.at_ + 2 }, u)
 else if k = 29 then
  match m.stk with
  | a :: s => (4, { m with stk := s, at_ := if a = 0 then v.toNat else m.at_ + 2 }, u)
  | _ => (4, m, u)
 else if k = 30 then (4, { m with at_ := v.toNat }, u)
 else if k = 31 then
  match m.stk with
  | a :: b :: s => (4, if a < b then { m with stk := s, loops := m.loops ++ [(a, b)], at_ := m.at_ + 2 } else { m with stk := s, at_ := v.toNat }, u)
  | _ => (4, m, u)
 else if k = 32 then
  (4, if (m.loops.getLastD (0, 0)).1 + 1 < (m.loops.getLastD (0, 0)).2 then { m with loops := m.loops.dropLast ++ [((m.loops.getLastD (0, 0)).1 + 1, (m.loops.getLastD (0, 0)).2)], at_ := v.toNat } else { m with loops := m.loops.dropLast, at_ := m.at_ + 2 }, u)
 else if k = 33 then (4, { m with calls := m.calls ++ [((m.at_ + 2 : Nat) : Int)], at_ := v.toNat }, u)
 else if m.calls = [] then (0, { m with at_ := m.at_ + 1 }, u) else (4, { m with calls := m.calls.dropLast, at_ := (m.calls.getLastD 0).toNat }, u)
def stepM (code : List Int) (m : MS) (u : MW) : Int × MS × MW :=
 if hindP (code.getD m.at_ 0).toNat m.stk u.vars.length ≠ 4 then (hindP (code.getD m.at_ 0).toNat m.stk u.vars.length, m, u) else execM (code.getD m.at_ 0).toNat (code.getD (m.at_ + 1) 0) m u
structure StepOk (code : List Int) (m : MS) (u : MW) : Prop where
 op : ∃ k : Nat, k < 35 ∧ code[m.at_]? = some (k : Int)
 cell : ∀ a ∈ m.stk, Cell a
 opd : ∀ k : Nat, code[m.at_]? = some (k : Int) → 28 ≤ k → k ≤ 33 → ∃ v, code[m.at_ + 1]? = some v ∧ (k ≠ 28 → ∃ n : Nat, v = n ∧ n ≤ code.length)
 loop : ∀ k : Nat, code[m.at_]? = some (k : Int) → (k = 27 ∨ k = 32) → ∃ l a b, m.loops = l ++ [(a, b)] ∧ -9000000000 ≤ a ∧ a ≤ 9000000000
 call : ∀ (l : List Int) (p : Int), m.calls = l ++ [p] → ∃ n : Nat, p = n ∧ n ≤ code.length
 room : m.loops.length + 1 ≤ 2000000 ∧ m.calls.length + 1 ≤ 2000000 ∧ u.outs.length + 1 ≤ 2000000
theorem hind_ok {k : Nat} {s : List Int} {n : Nat} (h : hindP k s n = 4) : (opInf k).need ≤ s.length ∧ (s.length : Int) + (opInf k).net ≤ 32 ∧ ((k = 23 ∨ k = 24) → 0 ≤ s.headD 0 ∧ s.headD 0 < (n : Int)) := by
 unfold hindP at h
 split at h
 ·exact absurd h (by decide)
 ·rename_i h1
  split at h
  ·exact absurd h (by decide)
  ·rename_i h2
   split at h
   ·exact absurd h (by decide)
   ·rename_i h3
    refine ⟨by omega, by omega, fun hk => ?_⟩
    exact Classical.byContradiction (fun hn => h2 ⟨hk, hn⟩)
theorem two_need : ∀ k, k ≤ 12 → (opInf k).need = 2 := by decide +kernel
theorem one_need (k : Nat) (h1 : 13 ≤ k) (h2 : k ≤ 15) : (opInf k).need = 1 := by
 have hc : k = 13 ∨ k = 14 ∨ k = 15 := by omega
 rcases hc with rfl | rfl | rfl <;> rfl
theorem stk1 {s : List Int} (h : (1 : Int) ≤ s.length) : ∃ a r, s = a :: r := by
 cases s with
 | nil => simp at h
 | cons a r => exact ⟨a, r, rfl⟩
theorem stk2 {s : List Int} (h : (2 : Int) ≤ s.length) : ∃ a b r, s = a :: b :: r := by
 obtain ⟨a, r, rfl⟩ := stk1 (s := s) (by omega)
 obtain ⟨b, r, rfl⟩ := stk1 (s := r) (by simp at h; omega)
 exact ⟨a, b, r, rfl⟩
theorem stk3 {s : List Int} (h : (3 : Int) ≤ s.length) : ∃ a b c r, s = a :: b :: c :: r := by
 obtain ⟨a, b, r, rfl⟩ := stk2 (s := s) (by omega)
 obtain ⟨c, r, rfl⟩ := stk1 (s := r) (by simp at h; omega)
 exact ⟨a, b, c, r, rfl⟩
section
variable {B : Nat} {w w' : World} {x : RX} {code : List Int} {m m' : MS} {u u' : MW}
theorem mach_step (h : RAt B w x code m u) (ht : Tab w) (hok : StepOk code m u) :
  Calls Tryz.prog 74 #[.pointer (some ⟨x.mb, 0, none⟩)] w fun e w' => e = .returned (.int .i64 (stepM code m u).1) ∧ RNext B w x code (stepM code m u).2.1 (stepM code m u).2.2 w' := by
 obtain ⟨k, hk, hop⟩ := hok.op
 have hg : (code.getD m.at_ 0).toNat = k := by
  have : code.getD m.at_ 0 = (k : Int) := by rw [List.getD_eq_getElem?_getD, hop]; rfl
  rw [this]; simp
 unfold stepM
 rw [hg]
 by_cases hh : hindP k m.stk u.vars.length = 4
 ·rw [if_neg (fun h => h hh)]
  obtain ⟨hn, hm, ha⟩ := hind_ok hh
  have hl32 := h.c32.2
  obtain ⟨v, hv⟩ : ∃ v, v = code.getD (m.at_ + 1) 0 := ⟨_, rfl⟩
  rw [← hv]
  have hvv : ∀ v', code[m.at_ + 1]? = some v' → v = v' := fun v' h' => by rw [hv, List.getD_eq_getElem?_getD, h']; rfl
  unfold execM
  by_cases h12 : k ≤ 12
  ·rw [if_pos h12]
   rw [two_need k h12] at hn
   obtain ⟨b, a, s, hs⟩ := stk2 hn
   rw [hs]
   exact step_two h12 h ht hop hh hs (hok.cell a (by rw [hs]; simp)) (hok.cell b (by rw [hs]; simp))
  ·rw [if_neg h12]
   by_cases h15 : k ≤ 15
   ·rw [if_pos h15]
    rw [one_need k (by omega) h15] at hn
    obtain ⟨a, s, hs⟩ := stk1 hn
    rw [hs]
    exact step_one (by omega) h15 h ht hop hh hs (hok.cell a (by rw [hs]; simp))
   ·rw [if_neg h15]
    by_cases h22 : k ≤ 22
    ·rw [if_pos h22]
     have hc : k = 16 ∨ k = 17 ∨ k = 18 ∨ k = 19 ∨ k = 20 ∨ k = 21 ∨ k = 22 := by omega
     rcases hc with rfl | rfl | rfl | rfl | rfl | rfl | rfl
     ·obtain ⟨c, s, hs⟩ := stk1 hn
      have e : arrP 16 m.stk = c :: c :: s := by rw [hs]; match s with | [] => rfl | [_] => rfl | _ :: _ :: _ => rfl
      rw [e]
      exact step_arr (by omega) (by omega) h ht hop hh (fun w1 h1 => (mach_dup h1 hs (by have : (opInf 16).net = 1 := rfl; simp only; omega)).mono (fun e w2 ⟨h2, h3⟩ => ⟨h2, _, h3⟩))
     ·obtain ⟨c, s, hs⟩ := stk1 hn
      have e : arrP 17 m.stk = s := by rw [hs]; match s with | [] => rfl | [_] => rfl | _ :: _ :: _ => rfl
      rw [e]
      exact step_arr (by omega) (by omega) h ht hop hh (fun w1 h1 => (mach_drop h1 hs (by simp only; omega)).mono (fun e w2 ⟨h2, h3⟩ => ⟨h2, _, h3⟩))
     ·obtain ⟨c, b, s, hs⟩ := stk2 hn
      have e : arrP 18 m.stk = b :: c :: s := by rw [hs]; match s with | [] => rfl | _ :: _ => rfl
      rw [e]
      exact step_arr (by omega) (by omega) h ht hop hh (fun w1 h1 => (mach_swap h1 hs (by simp only; omega)).mono (fun e w2 ⟨h2, h3⟩ => ⟨h2, _, h3⟩))
     ·obtain ⟨c, b, s, hs⟩ := stk2 hn
      have e : arrP 19 m.stk = b :: c :: b :: s := by rw [hs]; match s with | [] => rfl | _ :: _ => rfl
      rw [e]
      exact step_arr (by omega) (by omega) h ht hop hh (fun w1 h1 => (mach_over h1 hs (by have : (opInf 19).net = 1 := rfl; simp only; omega)).mono (fun e w2 ⟨h2, h3⟩ => ⟨h2, _, h3⟩))
     ·obtain ⟨c, b, a, s, hs⟩ := stk3 hn
      have e : arrP 20 m.stk = a :: c :: b :: s := by rw [hs]; rfl
      rw [e]
      exact step_arr (by omega) (by omega) h ht hop hh (fun w1 h1 => (mach_rot h1 hs (by simp only; omega)).mono (fun e w2 ⟨h2, h3⟩ => ⟨h2, _, h3⟩))
     ·obtain ⟨c, b, s, hs⟩ := stk2 hn
      have e : arrP 21 m.stk = c :: s := by rw [hs]; match s with | [] => rfl | _ :: _ => rfl
      rw [e]
      exact step_arr (by omega) (by omega) h ht hop hh (fun w1 h1 => (mach_nip h1 hs (by simp only; omega)).mono (fun e w2 ⟨h2, h3⟩ => ⟨h2, _, h3⟩))
     ·obtain ⟨c, b, s, hs⟩ := stk2 hn
      have e : arrP 22 m.stk = c :: b :: c :: s := by rw [hs]; match s with | [] => rfl | _ :: _ => rfl
      rw [e]
      exact step_arr (by omega) (by omega) h ht hop hh (fun w1 h1 => (mach_tuck h1 hs (by have : (opInf 22).net = 1 := rfl; simp only; omega)).mono (fun e w2 ⟨h2, h3⟩ => ⟨h2, _, h3⟩))
    ·rw [if_neg h22]
     have hc : k = 23 ∨ k = 24 ∨ k = 25 ∨ k = 26 ∨ k = 27 ∨ k = 28 ∨ k = 29 ∨ k = 30 ∨ k = 31 ∨ k = 32 ∨ k = 33 ∨ k = 34 := by omega
     rcases hc with rfl | rfl | rfl | rfl | rfl | rfl | rfl | rfl | rfl | rfl | rfl | rfl
     ·obtain ⟨a, s, hs⟩ := stk1 hn
      have ha' := ha (Or.inl rfl)
      rw [hs] at ha'
      simp only [List.headD_cons] at ha'
      obtain ⟨i, rfl⟩ : ∃ i : Nat, a = i := ⟨a.toNat, by omega⟩
      rw [if_pos rfl, hs]
      exact step_deal (by omega) (by omega) h ht hop hh (fun w1 h1 => (mach_fetch h1 hs (by omega)).mono (fun e w2 ⟨h2, h3⟩ => ⟨h2, _, h3⟩))
     ·obtain ⟨a, b, s, hs⟩ := stk2 hn
      have ha' := ha (Or.inr rfl)
      rw [hs] at ha'
      simp only [List.headD_cons] at ha'
      obtain ⟨i, rfl⟩ : ∃ i : Nat, a = i := ⟨a.toNat, by omega⟩
      rw [if_neg (by decide), if_pos rfl, hs]
      exact step_deal (by omega) (by omega) h ht hop hh (fun w1 h1 => (mach_store h1 hs (by omega)).mono (fun e w2 ⟨h2, h3⟩ => ⟨h2, _, h3⟩))
     ·rw [if_neg (by decide), if_neg (by decide), if_pos rfl]
      exact step_deal (by omega) (by omega) h ht hop hh (fun w1 h1 => mach_in h1 (by have : (opInf 25).net = 1 := rfl; simp only; omega))
     ·obtain ⟨a, s, hs⟩ := stk1 hn
      rw [if_neg (by decide), if_neg (by decide), if_neg (by decide), if_pos rfl, hs]
      exact step_deal (by omega) (by omega) h ht hop hh (fun w1 h1 => mach_out h1 hs hok.room.2.2)
     ·obtain ⟨l, a, b, hl, _, _⟩ := hok.loop 27 hop (Or.inl rfl)
      rw [if_neg (by decide), if_neg (by decide), if_neg (by decide), if_neg (by decide), if_pos rfl]
      have e : (m.loops.getLastD (0, 0)).1 = a := by rw [hl]; simp
      rw [e]
      exact step_index h ht hop hh hl (by have : (opInf 27).net = 1 := rfl; omega)
     ·obtain ⟨v', hv', _⟩ := hok.opd 28 hop (by omega) (by omega)
      rw [if_neg (by decide), if_neg (by decide), if_neg (by decide), if_neg (by decide), if_neg (by decide), if_pos rfl, hvv v' hv']
      exact step_push h ht hop hh hv' (by have : (opInf 28).net = 1 := rfl; omega)
     ·obtain ⟨v', hv', hn'⟩ := hok.opd 29 hop (by omega) (by omega)
      obtain ⟨n, rfl, hnl⟩ := hn' (by decide)
      obtain ⟨a, s, hs⟩ := stk1 hn
      rw [if_neg (by decide), if_neg (by decide), if_neg (by decide), if_neg (by decide), if_neg (by decide), if_neg (by decide), if_pos rfl, hvv _ hv', hs]
      exact step_jump (by omega) (by omega) h ht hop hh (fun w1 h1 => mach_if h1 hv' hnl hs)
     ·obtain ⟨v', hv', hn'⟩ := hok.opd 30 hop (by omega) (by omega)
      obtain ⟨n, rfl, hnl⟩ := hn' (by decide)
      rw [if_neg (by decide), if_neg (by decide), if_neg (by decide), if_neg (by decide), if_neg (by decide), if_neg (by decide), if_neg (by decide), if_pos rfl, hvv _ hv']
      exact step_jump (by omega) (by omega) h ht hop hh (fun w1 h1 => mach_else (m := { m with at_ := m.at_ + 1 }) h1 hv' hnl)
     ·obtain ⟨v', hv', hn'⟩ := hok.opd 31 hop (by omega) (by omega)
      obtain ⟨n, rfl, hnl⟩ := hn' (by decide)
      obtain ⟨a, b, s, hs⟩ := stk2 hn
      rw [if_neg (by decide), if_neg (by decide), if_neg (by decide), if_neg (by decide), if_neg (by decide), if_neg (by decide), if_neg (by decide), if_neg (by decide), if_pos rfl, hvv _ hv', hs]
      exact step_jump (by omega) (by omega) h ht hop hh (fun w1 h1 => mach_do h1 hv' hnl hs hok.room.1)
     ·obtain ⟨v', hv', hn'⟩ := hok.opd 32 hop (by omega) (by omega)
      obtain ⟨n, rfl, hnl⟩ := hn' (by decide)
      obtain ⟨l, a, b, hl, h0, h1'⟩ := hok.loop 32 hop (Or.inr rfl)
      have e : m.loops.getLastD (0, 0) = (a, b) := by rw [hl]; simp
      have e2 : m.loops.dropLast = l := by rw [hl]; simp
      rw [if_neg (by decide), if_neg (by decide), if_neg (by decide), if_neg (by decide), if_neg (by decide), if_neg (by decide), if_neg (by decide), if_neg (by decide), if_neg (by decide), if_pos rfl, hvv _ hv', e, e2]
      exact step_jump (by omega) (by omega) h ht hop hh (fun w1 h1 => mach_loop h1 hv' hnl hl h0 h1')
     ·obtain ⟨v', hv', hn'⟩ := hok.opd 33 hop (by omega) (by omega)
      obtain ⟨n, rfl, hnl⟩ := hn' (by decide)
      rw [if_neg (by decide), if_neg (by decide), if_neg (by decide), if_neg (by decide), if_neg (by decide), if_neg (by decide), if_neg (by decide), if_neg (by decide), if_neg (by decide), if_neg (by decide), if_pos rfl, hvv _ hv']
      exact step_jump (by omega) (by omega) h ht hop hh (fun w1 h1 => mach_callw h1 hv' hnl hok.room.2.1)
     ·rw [if_neg (by decide), if_neg (by decide), if_neg (by decide), if_neg (by decide), if_neg (by decide), if_neg (by decide), if_neg (by decide), if_neg (by decide), if_neg (by decide), if_neg (by decide), if_neg (by decide)]
      by_cases hc : m.calls = []
      ·rw [if_pos hc]
       exact step_end0 h ht hop hh hc
      ·rw [if_neg hc]
       obtain ⟨l, p, hlp⟩ : ∃ l p, m.calls = l ++ [p] := ⟨m.calls.dropLast, m.calls.getLast hc, (List.dropLast_concat_getLast hc).symm⟩
       obtain ⟨n, rfl, hnl⟩ := hok.call l p hlp
       have e : m.calls.getLastD 0 = (n : Int) := by rw [hlp]; simp
       have e2 : m.calls.dropLast = l := by rw [hlp]; simp
       rw [e, e2]
       exact step_end h ht hop hh hlp hnl
 ·rw [if_pos hh]
  exact step_hind hk h ht hop rfl hh
end
def runM (code : List Int) : Nat → Nat → MS → MW → Nat × Int × MS × MW
 | 0, n, m, u => (n, 4, m, u)
 | f + 1, n, m, u => if (stepM code m u).1 = 4 then runM code f (n + 1) (stepM code m u).2.1 (stepM code m u).2.2 else (n + 1, (stepM code m u).1, (stepM code m u).2.1, (stepM code m u).2.2)
theorem RN.tab {B : Nat} {w w' : World} {x y : RX} {code : List Int} {m m' : MS} {u u' : MW} (h : RAt B w x code m u) (hn : RN B w x code m' u' w' y) (ht : Tab w) (hB : 3 ≤ B) : Tab w' := ht.chg hn.chg (fun k hk => Nat.le_trans hB (h.baseS hk))
theorem mach_run {B : Nat} {w : World} {x : RX} {code : List Int} {m : MS} {u : MW} (I : Nat → MS → MW → Prop) (fuel : Nat) (hf : fuel ≤ 1000000) (hI : I 0 m u) (hstep : ∀ n m u, n < fuel → I n m u → StepOk code m u ∧ ((stepM code m u).1 = 4 → I (n + 1) (stepM code m u).2.1 (stepM code m u).2.2))
  (h : RAt B w x code m u) (ht : Tab w) (hB : 3 ≤ B) :
  Calls Tryz.prog 49 #[.pointer (some ⟨x.mb, 0, none⟩), .int .i64 fuel] w fun e w' => e = .returned (.tuple #[.int .i64 (runM code fuel 0 m u).1, .int .i64 (runM code fuel 0 m u).2.1]) ∧ RNext B w x code (runM code fuel 0 m u).2.2.1 (runM code fuel 0 m u).2.2.2 w' := by
 obtain ⟨R, hR⟩ : ∃ R, R = runM code fuel 0 m u := ⟨_, rfl⟩
 rw [← hR]
 have HR := hidden hR; have H := hidden h; have HT := hidden ht; have HI := hidden hI; have HST := hidden hstep
 have hmb := h.c38.2.2
 clear hR h ht hI hstep
 go_enter Tryz.func49, Tryz.ntmps49
 go_wp2_with fail
 go_loopw [4, 5] (fun s e wr => ∃ (n : Nat) (E : Int), n ≤ fuel ∧ s = .int .i64 n ∧ e = .int .i64 E ∧ Hid ((E = 4 ∧ ∃ m' u', R = runM code (fuel - n) n m' u' ∧ I n m' u' ∧ RNext B w x code m' u' wr) ∨ (E ≠ 4 ∧ ∃ m' u', R = (n, E, m', u') ∧ RNext B w x code m' u' wr))) (fun s e _ => if intOf e = 4 then fuel + 1 - (intOf s).toNat else 0)
 case atStart => exact ⟨0, 4, Nat.zero_le _, rfl, rfl, hidden (Or.inl ⟨rfl, m, u, HR.out, HI.out, x, H.out.below (Below.refl _ _)⟩)⟩
 case round =>
  clear HR HI
  obtain ⟨n, E, hn, rfl, rfl, HC⟩ := hrel
  by_cases hE : E = 4
  ·subst hE
   obtain ⟨_, m', u', hr, hi, y, hy⟩ := HC.out.resolve_right (fun h => h.1 rfl)
   by_cases hlt : n < fuel
   ·have hli : (n : Int) < (fuel : Int) := by omega
    obtain ⟨hok, hnx⟩ := HST.out n m' u' hlt hi
    have hst := mach_step hy.at_ (RN.tab H.out hy HT.out hB) hok
    rw [hy.mb] at hst
    rw [show fuel - n = (fuel - n - 1) + 1 by omega, runM] at hr
    have HS := hidden hst; have HRR := hidden hr; have HY := hidden hy; have HNX := hidden hnx
    obtain ⟨E', hE'⟩ : ∃ E', E' = (stepM code m' u').1 := ⟨_, rfl⟩
    rw [← hE'] at HS HRR HNX
    have HE := hidden hE'
    clear HC hr hi hy hok hnx hst hE'
    go_wp2_with fail
    refine HS.out.mono ?_
    rintro e w2 ⟨rfl, z, hz⟩
    have HZ := hidden (HY.out.trans hz)
    clear hz HS
    go_wp2_with fail
    go_roundw
    case rel =>
     refine ⟨n + 1, E', by omega, by go_num, rfl, hidden ?_⟩
     by_cases h4 : E' = 4
     ·refine Or.inl ⟨h4, _, _, ?_, HNX.out h4, z, HZ.out⟩
      rw [HRR.out, if_pos h4]
      congr 1
     ·refine Or.inr ⟨h4, _, _, ?_, z, HZ.out⟩
      rw [HRR.out, if_neg h4]
    case measure =>
     simp only [intOf]
     by_cases h4 : E' = 4
     ·simp [h4]; omega
     ·simp [h4]; omega
   ·obtain rfl : n = fuel := by omega
    rw [Nat.sub_self] at hr
    have HRR := hidden (show R = (n, 4, m', u') from hr); have HY := hidden hy
    have hli : ¬ (n : Int) < (n : Int) := by omega
    clear HC hr hi hy
    go_wp2_with fail
    exact bodyPost_ret (v := .tuple #[.int .i64 n, .int .i64 4]) (by simp [results, Tryz.results49, go_sem]) rfl ⟨by rw [HRR.out], y, by rw [HRR.out]; exact HY.out⟩
  ·obtain ⟨_, m', u', hr, y, hy⟩ := HC.out.resolve_left (fun h => hE h.1)
   have hEb : (E == 4) = false := by simp [hE]
   have HRR := hidden hr; have HY := hidden hy
   clear HC hr hy
   go_wp2_with fail
   exact bodyPost_ret (v := .tuple #[.int .i64 n, .int .i64 E]) (by simp [results, Tryz.results49, go_sem]) rfl ⟨by rw [HRR.out], y, by rw [HRR.out]; exact HY.out⟩
def quietK (k : Nat) : Prop := k ≠ 23 ∧ k ≠ 24 ∧ k ≠ 25
def MW.put (u : MW) (o : List Int) : MW := ⟨u.vars, u.outs ++ o, u.ins⟩
def noMW : MW := ⟨[], [], []⟩
theorem hind_quiet {k : Nat} (h : quietK k) (s : List Int) (n n' : Nat) : hindP k s n = hindP k s n' := by
 obtain ⟨h1, h2, h3⟩ := h
 unfold hindP
 simp [h1, h2]
theorem exec_quiet {k : Nat} (h : quietK k) (v : Int) (m : MS) (u : MW) : execM k v m u = ((execM k v m noMW).1, (execM k v m noMW).2.1, u.put (execM k v m noMW).2.2.outs) := by
 obtain ⟨h1, h2, h3⟩ := h
 obtain ⟨uv, uo, ui⟩ := u
 obtain ⟨st, lo, ca, a0⟩ := m
 unfold execM MW.put noMW
 simp only [h1, h2, h3, if_false]
 rcases st with _ | ⟨a, _ | ⟨b, s⟩⟩ <;> simp only [] <;>
 ·by_cases c1 : k ≤ 12
  ·simp [c1]
  by_cases c2 : k ≤ 15
  ·simp [c1, c2]
  by_cases c3 : k ≤ 22
  ·simp [c1, c2, c3]
  by_cases c4 : k = 26
  ·simp [c1, c2, c3, c4]
  by_cases c5 : k = 27
  ·simp [c1, c2, c3, c4, c5]
  by_cases c6 : k = 28
  ·simp [c1, c2, c3, c4, c5, c6]
  by_cases c7 : k = 29
  ·simp [c1, c2, c3, c4, c5, c6, c7]
  by_cases c8 : k = 30
  ·simp [c1, c2, c3, c4, c5, c6, c7, c8]
  by_cases c9 : k = 31
  ·simp [c1, c2, c3, c4, c5, c6, c7, c8, c9]
  by_cases c10 : k = 32
  ·simp [c1, c2, c3, c4, c5, c6, c7, c8, c9, c10]
  by_cases c11 : k = 33
  ·simp [c1, c2, c3, c4, c5, c6, c7, c8, c9, c10, c11]
  by_cases c12 : ca = []
  ·simp [c1, c2, c3, c4, c5, c6, c7, c8, c9, c10, c11, c12]
  ·simp [c1, c2, c3, c4, c5, c6, c7, c8, c9, c10, c11, c12]
theorem step_quiet {code : List Int} {m : MS} (h : quietK (code.getD m.at_ 0).toNat) (u : MW) : stepM code m u = ((stepM code m noMW).1, (stepM code m noMW).2.1, u.put (stepM code m noMW).2.2.outs) := by
 unfold stepM
 rw [hind_quiet h _ u.vars.length noMW.vars.length]
 split
 ·simp [MW.put, noMW]
 ·exact exec_quiet h _ _ _
def takes (k : Int) : Bool := decide (28 ≤ k) && decide (k ≤ 33)
def quietC (k : Int) : Bool := decide (k ≠ 23) && decide (k ≠ 24) && decide (k ≠ 25)
def strm : Bool → List Int → Bool
 | b, [] => !b
 | true, _ :: r => strm false r
 | false, k :: r => quietC k && strm (takes k) r
def opd : Bool → List Int → List Bool
 | _, [] => []
 | true, _ :: r => true :: opd false r
 | false, k :: r => false :: opd (takes k) r
theorem strm_append : ∀ (l : List Int) {b : Bool} (m : List Int), strm b l = true → strm b (l ++ m) = strm false m
 | [], b, m, h => by
  cases b
  ·rfl
  ·simp [strm] at h
 | k :: r, true, m, h => by
  simp only [strm, List.cons_append] at h ⊢
  exact strm_append r m h
 | k :: r, false, m, h => by
  simp only [strm, List.cons_append, Bool.and_eq_true] at h ⊢
  rw [strm_append r m h.2, h.1, Bool.true_and]
theorem opd_append : ∀ (l : List Int) {b : Bool} (m : List Int), strm b l = true → opd b (l ++ m) = opd b l ++ opd false m
 | [], b, m, h => by
  cases b
  ·rfl
  ·simp [strm] at h
 | k :: r, true, m, h => by
  simp only [strm, opd, List.cons_append] at h ⊢
  rw [opd_append r m h]
 | k :: r, false, m, h => by
  simp only [strm, opd, List.cons_append, Bool.and_eq_true] at h ⊢
  rw [opd_append r m h.2]
theorem opd_length : ∀ (l : List Int) (b : Bool), (opd b l).length = l.length
 | [], b => by cases b <;> rfl
 | k :: r, true => by simp [opd, opd_length r]
 | k :: r, false => by simp [opd, opd_length r]
theorem opd_set (v : Int) : ∀ (l : List Int) (b : Bool) (p : Nat), (opd b l)[p]? = some true → opd b (l.set p v) = opd b l ∧ strm b (l.set p v) = strm b l
 | [], b, p, h => by cases b <;> simp [opd] at h
 | k :: r, true, 0, h => ⟨rfl, rfl⟩
 | k :: r, false, 0, h => by simp [opd] at h
 | k :: r, true, p + 1, h => by
  simp only [opd, List.getElem?_cons_succ] at h
  obtain ⟨h1, h2⟩ := opd_set v r false p h
  simp only [List.set_cons_succ, opd, strm, h1, h2, and_self]
 | k :: r, false, p + 1, h => by
  simp only [opd, List.getElem?_cons_succ] at h
  obtain ⟨h1, h2⟩ := opd_set v r (takes k) p h
  simp only [List.set_cons_succ, opd, strm, h1, h2, and_self]
theorem strm_at : ∀ (l : List Int) (b : Bool) (p : Nat) (k : Int), strm b l = true → (opd b l)[p]? = some false → l[p]? = some k → quietC k = true ∧
  (takes k = false → p + 1 = l.length ∨ (opd b l)[p + 1]? = some false) ∧ (takes k = true → (opd b l)[p + 1]? = some true ∧ (p + 2 = l.length ∨ (opd b l)[p + 2]? = some false))
 | [], b, p, k, h, hp, hk => by simp at hk
 | x :: r, true, 0, k, h, hp, hk => by simp [opd] at hp
 | x :: r, true, p + 1, k, h, hp, hk => by
  simp only [strm] at h
  simp only [opd, List.getElem?_cons_succ] at hp hk
  have := strm_at r false p k h hp hk
  simpa [opd, Nat.add_right_comm] using this
 | x :: r, false, 0, k, h, hp, hk => by
  simp only [strm, Bool.and_eq_true] at h
  simp only [List.getElem?_cons_zero, Option.some.injEq] at hk
  subst hk
  refine ⟨h.1, fun ht => ?_, fun ht => ?_⟩
  ·rw [ht] at h
   cases r with
   | nil => exact Or.inl rfl
   | cons y r => exact Or.inr (by simp [opd, ht])
  ·rw [ht] at h
   cases r with
   | nil => simp [strm] at h
   | cons y r =>
    refine ⟨by simp [opd, ht], ?_⟩
    cases r with
    | nil => exact Or.inl rfl
    | cons z r => exact Or.inr (by simp [opd, ht])
 | x :: r, false, p + 1, k, h, hp, hk => by
  simp only [strm, Bool.and_eq_true] at h
  simp only [opd, List.getElem?_cons_succ] at hp hk
  have := strm_at r (takes x) p k h.2 hp hk
  simpa [opd, Nat.add_right_comm] using this
theorem quietC_K {k : Int} (h : quietC k = true) (h0 : 0 ≤ k) : quietK k.toNat := by
 unfold quietC at h
 simp only [Bool.and_eq_true, decide_eq_true_eq] at h
 exact ⟨by omega, by omega, by omega⟩
instance (n : Int) : Decidable (Cell n) := by unfold Cell; infer_instance
theorem make_rowsM {P : Program} (t e : TypeId) (z : Value) (zc : Array Value) (size bytes : Nat) (hzc : z.cells = zc) (ht : P.underlying t = some (.slice e)) (hinfo : (P.info? e).map (fun i => (i.zero, i.size, i.bytes)) = some (some z, size, bytes)) (n : Nat) (hbytes : bytes * n ≤ 281474976710656) (h63 : n ≤ 9223372036854775807) (w : World) :
  (Instr.makeSlice t (.int .i64 (n : Int)) (.int .i64 (n : Int))).run P w = .ok (.slice (some ⟨w.heap.size, 0, none⟩) n n) (w.alloc (.cells (madeCells zc (n * size)) e)) := by
 subst hzc
 obtain ⟨i, hi, hz, hs, hb⟩ := info_parts hinfo
 have := run_make (P := P) w t e i z ht hi hz .i64 .i64 n n (by omega) (Int.le_refl _) (by rw [hb, ← Int.natCast_mul]; omega) (by omega)
 rw [hs] at this
 simpa using this
def areC (l : List Int) : Bool := l.all fun n => decide (Cell n)
theorem insAt_all {B : Nat} {w : World} {iv : Value} {l : List Int} (h : InsAt B w iv l) : ∃ a c, iv = .slice a l.length c ∧ ∀ (j : Nat) (y : Int), l[j]? = some y → ∃ pb po, a = some ⟨pb, po, none⟩ ∧ pb < B ∧ w.cell? ⟨pb, po + j, none⟩ = some (.int .i64 y) := by
 rcases h with ⟨rfl, a, c, rfl⟩ | ⟨pb, po, c, rfl, _, h3, h4⟩
 ·exact ⟨a, c, rfl, fun j y h => by simp at h⟩
 ·exact ⟨_, c, rfl, fun j y h => ⟨pb, po, rfl, h3, h4 j y h⟩⟩
theorem mach_areCells {B : Nat} {w : World} {iv : Value} {l : List Int} (hi : InsAt B w iv l) (hB : B ≤ w.heap.size) (hl : l.length ≤ 17592186043904) :
  Calls Tryz.prog 56 #[iv] w fun e w' => e = .returned (.bool (areC l)) ∧ w' = w := by
 obtain ⟨R, hR⟩ : ∃ R, R = areC l := ⟨_, rfl⟩
 rw [← hR]
 obtain ⟨a, c, rfl, hv⟩ := insAt_all hi
 ·have HR := hidden hR; have HV := hidden hv; have HL := hidden hl
  obtain ⟨n, hn⟩ : ∃ n, n = l.length := ⟨_, rfl⟩
  rw [← hn] at hl ⊢
  have HN := hidden hn
  clear hR hv hn hi
  go_enter Tryz.func56, Tryz.ntmps56
  go_wp2_with fail
  go_loopw [7] (fun s wr => ∃ k : Nat, k ≤ n ∧ s = .int .i64 k ∧ wr = w ∧ Hid (R = areC (l.drop k))) (fun s _ => n - (intOf s).toNat)
  case atStart => exact ⟨0, Nat.zero_le _, rfl, rfl, hidden (by rw [HR.out]; rfl)⟩
  case round =>
   clear HR
   obtain ⟨k, hk, rfl, rfl, HC⟩ := hrel
   by_cases hlt : k < n
   ·have hli : (k : Int) < (n : Int) := by omega
    obtain ⟨y, hy⟩ : ∃ y, l[k]? = some y := ⟨_, List.getElem?_eq_getElem (by rw [← HN.out]; exact hlt)⟩
    obtain ⟨pb, po, rfl, hp, cy⟩ := HV.out k y hy
    have hpb : pb < wr.heap.size := by omega
    have hdr : R = (decide (Cell y) && areC (l.drop (k + 1))) := by
     have hyy := (List.getElem?_eq_some_iff.1 hy)
     obtain ⟨h1, h2⟩ := hyy
     rw [HC.out, List.drop_eq_getElem_cons h1, h2]; rfl
    have HD := hidden hdr
    clear hdr hy HC
    by_cases h1 : y < -2147483648
    ·have HR : Hid (R = false) := by show R = false; rw [HD.out, decide_eq_false (fun h => by have := h.1; omega)]; rfl
     go_wp2_with fail
     rw [HR.out]
     go_ret
     exact ⟨rfl, rfl⟩
    ·by_cases h2 : 2147483647 < y
     ·have HR : Hid (R = false) := by show R = false; rw [HD.out, decide_eq_false (fun h => by have := h.2; omega)]; rfl
      go_wp2_with fail
      rw [HR.out]
      go_ret
      exact ⟨rfl, rfl⟩
     ·have HR : Hid (R = areC (l.drop (k + 1))) := by show R = _; rw [HD.out, decide_eq_true ⟨by omega, by omega⟩, Bool.true_and]
      go_wp2_with fail
      go_roundw
      case rel => exact ⟨k + 1, by omega, by go_num, by trivial, HR⟩
      case measure => simp only [intOf]; omega
   ·obtain rfl : k = n := by omega
    have hli : ¬ (k : Int) < (k : Int) := by omega
    have HR : Hid (R = true) := by show R = true; rw [HC.out, List.drop_of_length_le (by rw [← HN.out]; exact Nat.le_refl _)]; rfl
    clear HC
    go_wp2_with fail
    rw [HR.out]
    go_ret
    exact ⟨rfl, rfl⟩
def mayR (s i : List Int) (f : Int) : Bool := decide (s.length ≤ 32) && (areC s && (areC i && (decide (0 ≤ f) && decide (f ≤ 1000000))))
theorem insAt_len {B : Nat} {w : World} {iv : Value} {l : List Int} (h : InsAt B w iv l) : ∃ a c, iv = .slice a l.length c := by
 rcases h with ⟨rfl, a, c, rfl⟩ | ⟨pb, po, c, rfl, _⟩
 ·exact ⟨a, c, rfl⟩
 ·exact ⟨_, c, rfl⟩
theorem forth_mayRun {B : Nat} {w : World} {sv iv : Value} {s i : List Int} (f : Int) (hs : InsAt B w sv s) (hi : InsAt B w iv i) (hB : B ≤ w.heap.size) (hl : s.length ≤ 17592186043904) (hl2 : i.length ≤ 17592186043904) :
  Calls Tryz.prog 44 #[sv, iv, .int .i64 f] w fun e w' => e = .returned (.bool (mayR s i f)) ∧ w' = w := by
 have H1 := hidden (mach_areCells hs hB hl); have H2 := hidden (mach_areCells hi hB hl2)
 obtain ⟨R, hR⟩ : ∃ R, R = mayR s i f := ⟨_, rfl⟩
 rw [← hR]
 unfold mayR at hR
 obtain ⟨a, c, rfl⟩ := insAt_len hs
 obtain ⟨a2, c2, rfl⟩ := insAt_len hi
 clear hs hi
 obtain ⟨n, hn⟩ : ∃ n, n = s.length := ⟨_, rfl⟩
 obtain ⟨n2, hn2⟩ : ∃ n, n = i.length := ⟨_, rfl⟩
 rw [← hn] at H1 hR hl ⊢
 rw [← hn2] at H2 hl2 ⊢
 obtain ⟨x, hx⟩ : ∃ x, x = areC s := ⟨_, rfl⟩
 obtain ⟨y, hy⟩ : ∃ y, y = areC i := ⟨_, rfl⟩
 rw [← hx] at H1 hR
 rw [← hy] at H2 hR
 clear hx hy hn hn2
 by_cases h32 : n ≤ 32
 ·have h32i : (n : Int) ≤ 32 := by omega
  rw [decide_eq_true h32, Bool.true_and] at hR
  have HR := hidden hR
  clear hR
  go_enter Tryz.func44, Tryz.ntmps44
  go_wp2_with fail
  refine H1.out.mono ?_
  rintro e w' ⟨rfl, rfl⟩
  clear H1
  cases x
  ·go_wp2_with fail
   rw [HR.out]
   go_ret
   exact ⟨rfl, rfl⟩
  ·rw [Bool.true_and] at HR
   go_wp2_with fail
   refine H2.out.mono ?_
   rintro e w' ⟨rfl, rfl⟩
   clear H2
   cases y
   ·go_wp2_with fail
    rw [HR.out]
    go_ret
    exact ⟨rfl, rfl⟩
   ·rw [Bool.true_and] at HR
    by_cases h0 : 0 ≤ f
    ·have HR' : Hid (R = decide (f ≤ 1000000)) := by show R = _; rw [HR.out, decide_eq_true h0, Bool.true_and]
     go_wp2_with fail
     rw [HR'.out]
     go_ret
     exact ⟨rfl, rfl⟩
    ·have h0' : f < 0 := by omega
     have HR' : Hid (R = false) := by show R = false; rw [HR.out, decide_eq_false h0, Bool.false_and]
     go_wp2_with fail
     rw [HR'.out]
     go_ret
     exact ⟨rfl, rfl⟩
 ·have h32i : ¬ (n : Int) ≤ 32 := by omega
  have HR' : Hid (R = false) := by show R = false; rw [hR, decide_eq_false h32, Bool.false_and]
  clear hR
  go_enter Tryz.func44, Tryz.ntmps44
  go_wp2_with fail
  rw [HR'.out]
  go_ret
  exact ⟨rfl, rfl⟩
theorem made_ints (n : Nat) : (madeCells #[.int .i64 0] (n * 1)).toList = ints (List.replicate n 0) := by
 rw [Nat.mul_one, toList_madeCells_one]; unfold ints; rw [List.map_replicate]
theorem mach_newWorld {w : World} {iv : Value} (n : Nat) (hn : n ≤ 1000) (hi : ∃ a l c, iv = .slice a l c) :
  Calls Tryz.prog 45 #[.int .i64 n, iv] w fun e w' => ∃ wp vg, e = .returned (.pointer (some ⟨wp, 0, none⟩)) ∧ w.heap.size ≤ wp ∧ vg = w.heap.size ∧ Blk w' wp #[.slice (some ⟨vg, 0, none⟩) n n, .slice none 0 0, iv] 118 ∧ IRow w.heap.size w' (.slice (some ⟨vg, 0, none⟩) n n) (List.replicate n 0) ∧ Below w.heap.size w w' := by
 obtain ⟨a, l, c, rfl⟩ := hi
 have hmk := make_rowsM (P := Tryz.prog) 24 3 (.int .i64 0) #[.int .i64 0] 1 8 rfl Tryz.underlying24 Tryz.infoIn n (by omega) (by omega)
 obtain ⟨vg, hvg⟩ : ∃ vg, vg = w.heap.size := ⟨_, rfl⟩
 obtain ⟨X, hX⟩ : ∃ X : World, X = w.alloc (.cells (madeCells #[.int .i64 0] n) 3 (0, 0)) := ⟨_, rfl⟩
 have hbX : Below w.heap.size w X := by rw [hX]; exact (Below.refl _ _).alloc (Nat.le_refl _) _
 have hrX : X.ownsRow w.heap.size 3 1 (.slice (some ⟨vg, 0, none⟩) n n) n (madeCells #[.int .i64 0] n).toList := by
  rw [hX, hvg]; exact World.ownsRow_lit w _ n (Nat.le_refl _) (by unfold maxLen; omega) (by rw [size_madeCells, Nat.mul_one])
 have HVG := hidden hvg; have HX := hidden hX; have HBX := hidden hbX; have HRX := hidden hrX
 clear hX hbX hrX hvg
 go_enter Tryz.func45, Tryz.ntmps45
 go_wp2_with fail
 rw [← HX.out]
 have hXs : w.heap.size + 1 = X.heap.size := by rw [HX.out]; exact (Array.size_push _).symm
 rw [hXs]
 refine bodyPost_ret (v := .pointer (some ⟨X.heap.size, 0, none⟩)) (by simp [results, Tryz.results45, go_sem]) rfl ⟨_, vg, rfl, HBX.out.size, HVG.out, by rw [HVG.out]; exact blk_new X _ _, ?_, HBX.out.alloc HBX.out.size _⟩
 have h := HRX.out.alloc (.cells #[.slice (some ⟨vg, 0, none⟩) n n, .slice none 0 0, .slice a l c] 118 (0, 0))
 have e := made_ints n
 rw [Nat.mul_one] at e
 rw [e] at h
 unfold IRow
 rw [List.length_replicate, ← HVG.out]
 rw [← HVG.out] at h
 exact h
theorem run_storeAt_row {P : Program} (w : World) (g o : Nat) (ty t : TypeId) (cells cur : Array Value) (hg : w.heap[g]? = some (.cells cur t (0, 0))) (ho : o + cells.size ≤ cur.size) (hi : (P.info? ty).map (·.size) = some cells.size) (h1 : cells.all (·.oneCell') = true) :
  (Instr.storeAt ty (.pointer (some ⟨g, o, none⟩)) (.agg cells)).run P w = .ok () (w.setRow g (cur.toList.take o ++ cells.toList ++ cur.toList.drop (o + cells.size)).toArray) := by
 have := run_storeCells_at P g o t cells.toList 0 cur w hg (by simpa using ho) (fun v hv => (Array.all_eq_true_iff_forall_mem.1 h1) v (by simpa using hv))
 cases hq : P.info? ty with
 | none => simp [hq] at hi
 | some i =>
  have hs : cells.size = i.size := by simp [hq] at hi; omega
  simp only [Nat.add_zero, Array.length_toList] at this
  simp [Instr.storeAt, Instr.sureAddr, storeVar, sizeOf, typeInfo, hq, Value.cells, hs, this]
def z33 : Array Value := #[.int .i64 0, .int .i64 0, .int .i64 0, .int .i64 0, .int .i64 0, .int .i64 0, .int .i64 0, .int .i64 0, .int .i64 0, .int .i64 0, .int .i64 0, .int .i64 0, .int .i64 0, .int .i64 0, .int .i64 0, .int .i64 0, .int .i64 0, .int .i64 0, .int .i64 0, .int .i64 0, .int .i64 0, .int .i64 0, .int .i64 0, .int .i64 0, .int .i64 0, .int .i64 0, .int .i64 0, .int .i64 0, .int .i64 0, .int .i64 0, .int .i64 0, .int .i64 0, .int .i64 0]
theorem wpList_store_row {P : Program} {ops : Array Oper} {rest : List Oper} {op : Oper} {a : Act} {w : World} {Q : Exit → Act → World → Prop} (hgd : op.guard = none) (ty : TypeId) (x y : Operand) (ho : op.op = .store ty x y)
  (g o : Nat) (t : TypeId) (cells cur : Array Value) (hx : a.eval x = .pointer (some ⟨g, o, none⟩)) (hy : a.eval y = .agg cells)
  (hg : w.heap[g]? = some (.cells cur t (0, 0))) (hf : o + cells.size ≤ cur.size) (hi : (P.info? ty).map (·.size) = some cells.size) (h1 : cells.all (·.oneCell') = true)
  (h : wpList P ops Q rest (a.put op.dst undef) (w.setRow g (cur.toList.take o ++ cells.toList ++ cur.toList.drop (o + cells.size)).toArray)) : wpList P ops Q (op :: rest) a w :=
 wpList_plain hgd fun _ hK => by
  unfold Oper.wp execOp
  simp only [ho, hx, hy, Sem.run_bind, run_storeAt_row w g o ty t cells cur hg hf hi h1]
  exact hK _ _ h
theorem copy_none {P : Program} (w : World) (dT sT ty elem : TypeId) (a : Addr) (dLen dCap c : Nat) (hu : P.underlying dT = some (.slice elem)) (hs : ((P.info? elem).map (·.size)).isSome = true) :
  (Builtin.copy_ #[dT, sT] ty #[.slice (some a) dLen dCap, .slice none 0 c]).run P w = .ok (goInt 0) w := by
 cases hq : P.info? elem with
 | none => simp [hq] at hs
 | some i => simp [Builtin.copy_, run_underlying hu, Builtin.lenOf, Builtin.firstCells, sizeOf, typeInfo, hq, storeCells]
theorem putC_nil (cs : Array Value) : putC cs 0 [] = cs := by unfold putC; simp
theorem copy_ins {B : Nat} {w : World} {iv : Value} {l : List Int} {mb : Nat} {cs : Array Value} (hi : InsAt B w iv l) (hl : l.length ≤ 32) (hb : Blk w mb cs 116) (hs : cs.size = 39) :
  (Builtin.copy_ #[24, 24] 3 #[.slice (some ⟨mb, 0, none⟩) 32 32, iv]).run Tryz.prog w = .ok (.int .i64 l.length) (w.setRow mb (putC cs 0 l)) := by
 have hrow : ∀ (a : Addr) (c : Nat), (∀ (j : Nat) (y : Int), l[j]? = some y → w.cell? (a.add j) = some (.int .i64 y)) → (Builtin.copy_ #[24, 24] 3 #[.slice (some ⟨mb, 0, none⟩) 32 32, .slice (some a) l.length c]).run Tryz.prog w = .ok (.int .i64 l.length) (w.setRow mb (putC cs 0 l)) := fun a c h => by
  have hcp := run_copy_row (P := Tryz.prog) w 24 24 3 3 mb 0 32 32 a l.length c cs 116 (l.map (Value.int .i64)) Tryz.underlying24 sz_int hb (by rw [List.length_map]; exact (Nat.min_eq_left hl).symm) (fun j v hj => by
   rw [List.getElem?_map] at hj
   obtain ⟨y, hy1, rfl⟩ := Option.map_eq_some_iff.1 hj
   exact h j y hy1) (by rw [List.length_map]; omega) (fun v hv => by
   obtain ⟨y, _, rfl⟩ := List.mem_map.1 hv; rfl)
  rw [List.length_map] at hcp
  exact hcp
 rcases hi with ⟨rfl, a, c, rfl⟩ | ⟨pb, po, c, rfl, _, _, h4⟩
 ·cases a with
  | none =>
   rw [putC_nil, setRow_self w mb cs 116 (0, 0) hb]
   exact copy_none w _ _ _ 3 _ _ _ c Tryz.underlying24 (by rw [sz_int]; rfl)
  | some a => exact hrow a c (fun j y h => by simp at h)
 ·exact hrow _ c (fun j y h => by rw [Addr.add_mid]; exact h4 j y h)
section
attribute [local go_sem] quietG
theorem mach_put0 {B : Nat} {w : World} {mb : Nat} {iv : Value} {cs : Array Value} (ys : List Int) (hb : Blk w mb cs 116) (h : MC cs []) (hy : ys.length ≤ 32) (hi : InsAt B w iv ys) (hB : B ≤ mb) :
  Calls Tryz.prog 106 #[.pointer (some ⟨mb, 0, none⟩), iv] w fun e w' => e = .returned (.tuple #[]) ∧ ∃ cs', Blk w' mb cs' 116 ∧ MC cs' (ys.reverse) ∧ Rest cs cs' ∧ Chg (fun b => b = mb) w w' := by
 have c32 : w.cell? ⟨mb, 32, none⟩ = some (.int .i64 0) := hb.cell 32 _ h.dep
 obtain ⟨hp, hr⟩ := h.push ys (by simpa using hy)
 simp only [List.length_nil, List.append_nil] at hp hr
 rw [show ((0 : Nat) : Int) + (ys.length : Int) = (ys.length : Int) by omega] at hp hr
 have hsz := h.size
 have hmw := hb.lt
 have hcp' := copy_ins (w := w.drew) (hi.below (w' := w.drew) ((Below.refl _ _).drew)) hy hb hsz
 obtain ⟨a, c, rfl⟩ := insAt_len hi
 obtain ⟨X, hX⟩ : ∃ X : World, X = w.drew.setRow mb (putC cs 0 ys) := ⟨_, rfl⟩
 rw [← hX] at hcp'
 have hkX : Blk X mb (putC cs 0 ys) 116 := by rw [hX]; exact setRow_heap w.drew mb _ _ _ _ hb
 have hcX : Chg (fun b => b = mb) w X := by rw [hX]; exact (Chg.refl (fun b => b = mb) w).drew.trans ⟨rfl, rfl, rfl, by simp [World.setRow], fun k hk hne => setRow_other w.drew mb k _ (fun e => hne e)⟩
 have x32 : X.cell? ⟨mb, 32, none⟩ = some (.int .i64 0) := hkX.cell 32 _ (by
  rw [putC_get cs 0 ys 32 (by omega), if_neg (by omega), if_neg (by omega)]; exact h.dep)
 have k0 : ∀ u : {w' : World // w' = w.drew ∨ w' = X}, u.val.cell? ⟨mb, 32, none⟩ = some (.int .i64 0) := fun u => by
  rcases u.property with e | e
  ·rw [e]; exact c32
  ·rw [e]; exact x32
 have hne : Nonempty {w' : World // w' = w.drew ∨ w' = X} := ⟨⟨X, Or.inr rfl⟩⟩
 have HP := hidden (And.intro hp hr); have HKX := hidden hkX; have HCX := hidden hcX; have HCP := hidden hcp'
 have hfz := hkX.frozen 32
 have hX32 := hkX.lt
 clear hcp' hX hkX hcX h hb hp hr c32 hi
 obtain ⟨n, hn⟩ : ∃ n, n = ys.length := ⟨_, rfl⟩
 rw [← hn] at hy HP HCP ⊢
 clear hn
 go_enter Tryz.func106, Tryz.ntmps106
 refine wp_region_turns (C := OneOf fun w' => w' = w.drew ∨ w' = X) 15 [13] ⟨w.drew, Or.inl rfl⟩ (by kernel_rfl) (by kernel_rfl) rfl ?_
 rw [show List.range 15 = [0, 1, 2, 3, 4, 5, 6, 7, 8, 9, 10, 11, 12, 13, 14] from rfl]
 repeat (refine wpT_step rfl rfl (fun K hK => ?_); go_simp; refine hK _ ?_; clear hK K)
 have hcp := HCP.out
 refine wpT_turn1 rfl rfl (.int .i64 n) X (Or.inr rfl) (Or.inl (by go_simp)) ?_
 clear hcp HCP
 repeat (refine wpT_step rfl rfl (fun K hK => ?_); go_simp; refine hK _ ?_; clear hK K)
 refine wpT_end ?_
 intro w' hw'
 rw [show w' = X from hw']
 clear hw' w' k0 hne
 simp only [List.drop_succ_cons, List.drop_zero]
 go_wp2_with fail
 go_end0
 exact ⟨rfl, _, HKX.out.set (o := 32) _, HP.out.1, HP.out.2, HCX.out.setCell (p := ⟨mb, 32, none⟩) rfl _⟩
end
structure BegC (cs cs' : Array Value) (ys : List Int) (st : Int) : Prop where
 mc : MC cs' ys.reverse
 c33 : cs'[33]? = some (.slice none 0 0)
 c34 : cs'[34]? = some (.slice none 0 0)
 c35 : cs'[35]? = cs[35]?
 c36 : cs'[36]? = cs[36]?
 c37 : cs'[37]? = cs[37]?
 c38 : cs'[38]? = some (.int .i64 st)
theorem begin_cells {cs : Array Value} (hs : cs.size = 39) (at_ : Value) :
  let cs' := ((((cs.toList.take 0 ++ z33.toList ++ cs.toList.drop (0 + z33.size)).toArray.setIfInBounds 33 (.slice none 0 0)).setIfInBounds 34 (.slice none 0 0)).setIfInBounds 38 at_)
  MC cs' [] ∧ cs'[33]? = some (.slice none 0 0) ∧ cs'[34]? = some (.slice none 0 0) ∧ cs'[35]? = cs[35]? ∧ cs'[36]? = cs[36]? ∧ cs'[37]? = cs[37]? ∧ cs'[38]? = some at_ := by
 obtain ⟨row, hrow⟩ : ∃ row, row = (cs.toList.take 0 ++ z33.toList ++ cs.toList.drop (0 + z33.size)).toArray := ⟨_, rfl⟩
 have h33 : z33.size = 33 := rfl
 have hsz : row.size = 39 := by rw [hrow]; simp [h33, hs]
 have hlo : ∀ i, i < 33 → row[i]? = some (.int .i64 0) := fun i hi => by
  rw [hrow, List.getElem?_toArray, List.take_zero, List.nil_append, List.getElem?_append_left (by rw [Array.length_toList, h33]; exact hi)]
  rw [show z33.toList = List.replicate 33 (.int .i64 0) from rfl, List.getElem?_replicate, if_pos hi]
 have hhi : ∀ i, 33 ≤ i → row[i]? = cs[i]? := fun i hi => by
  rw [hrow, List.getElem?_toArray, List.take_zero, List.nil_append, List.getElem?_append_right (by rw [Array.length_toList, h33]; exact hi), Array.length_toList, h33, List.getElem?_drop, Array.getElem?_toList]
  congr 1; omega
 rw [← hrow]
 clear hrow
 intro cs'
 have hg : ∀ i, i ≠ 33 → i ≠ 34 → i ≠ 38 → cs'[i]? = row[i]? := fun i h1 h2 h3 => by
  show ((((row.setIfInBounds 33 _).setIfInBounds 34 _).setIfInBounds 38 _))[i]? = _
  rw [Array.getElem?_setIfInBounds_ne (by omega), Array.getElem?_setIfInBounds_ne (by omega), Array.getElem?_setIfInBounds_ne (by omega)]
 refine ⟨⟨by simp [cs', hsz], trivial, ?_, by simp, fun i hi => ⟨0, ?_⟩⟩, ?_, ?_, ?_, ?_, ?_, ?_⟩
 ·rw [hg 32 (by omega) (by omega) (by omega)]; exact hlo 32 (by omega)
 ·rw [hg i (by omega) (by omega) (by omega)]; exact hlo i (by omega)
 ·show ((((row.setIfInBounds 33 _).setIfInBounds 34 _).setIfInBounds 38 _))[33]? = _
  rw [Array.getElem?_setIfInBounds_ne (by omega), Array.getElem?_setIfInBounds_ne (by omega), Array.getElem?_setIfInBounds_self_of_lt (by omega)]
 ·show ((((row.setIfInBounds 33 _).setIfInBounds 34 _).setIfInBounds 38 _))[34]? = _
  rw [Array.getElem?_setIfInBounds_ne (by omega), Array.getElem?_setIfInBounds_self_of_lt (by simp; omega)]
 ·rw [hg 35 (by omega) (by omega) (by omega)]; exact hhi 35 (by omega)
 ·rw [hg 36 (by omega) (by omega) (by omega)]; exact hhi 36 (by omega)
 ·rw [hg 37 (by omega) (by omega) (by omega)]; exact hhi 37 (by omega)
 ·show ((((row.setIfInBounds 33 _).setIfInBounds 34 _).setIfInBounds 38 _))[38]? = _
  rw [Array.getElem?_setIfInBounds_self_of_lt (by simp; omega)]
theorem mach_begin {B : Nat} {w : World} {mb : Nat} {iv : Value} {cs : Array Value} {st : Int} (ys : List Int) (hb : Blk w mb cs 116) (hs : cs.size = 39) (h37 : cs[37]? = some (.int .i64 st)) (hy : ys.length ≤ 32) (hi : InsAt B w iv ys) (hB : B ≤ mb) :
  Calls Tryz.prog 73 #[.pointer (some ⟨mb, 0, none⟩), iv] w fun e w' => e = .returned (.tuple #[]) ∧ ∃ cs', Blk w' mb cs' 116 ∧ BegC cs cs' ys st ∧ Chg (fun b => b = mb) w w' := by
 have hmb := hb.lt
 have hbc := begin_cells hs (.int .i64 st)
 obtain ⟨row, hrow⟩ : ∃ row, row = (cs.toList.take 0 ++ z33.toList ++ cs.toList.drop (0 + z33.size)).toArray := ⟨_, rfl⟩
 rw [← hrow] at hbc
 obtain ⟨X, hX⟩ : ∃ X : World, X = w.setRow mb row := ⟨_, rfl⟩
 have hkX : Blk X mb row 116 := by rw [hX]; exact setRow_heap w mb _ _ _ _ hb
 have hcX : Chg (fun b => b = mb) w X := by rw [hX]; exact ⟨rfl, rfl, rfl, by simp [World.setRow], fun k hk hne => setRow_other w mb k _ (fun e => hne e)⟩
 have hrs : row.size = 39 := by have := hbc.1.size; simpa using this
 obtain ⟨v33, h33⟩ : ∃ v, row[33]? = some v := ⟨_, Array.getElem?_eq_getElem (by omega)⟩
 obtain ⟨v34, h34⟩ : ∃ v, row[34]? = some v := ⟨_, Array.getElem?_eq_getElem (by omega)⟩
 obtain ⟨v38, h38⟩ : ∃ v, row[38]? = some v := ⟨_, Array.getElem?_eq_getElem (by omega)⟩
 have r37 : row[37]? = some (.int .i64 st) := by
  have := hbc.2.2.2.2.2.1
  rw [Array.getElem?_setIfInBounds_ne (by omega), Array.getElem?_setIfInBounds_ne (by omega), Array.getElem?_setIfInBounds_ne (by omega)] at this
  rw [this, h37]
 have x33 := hkX.cell 33 _ h33
 have x34 := hkX.cell 34 _ h34
 have x37 := hkX.cell 37 _ r37
 have x38 := hkX.cell 38 _ h38
 have f33 := hkX.frozen 33
 have f34 := hkX.frozen 34
 have f38 := hkX.frozen 38
 have hXl := hkX.lt
 have hkY := ((hkX.set (o := 33) (.slice none 0 0)).set (o := 34) (.slice none 0 0)).set (o := 38) (.int .i64 st)
 have hcY := ((hcX.setCell (p := ⟨mb, 33, none⟩) rfl (.slice none 0 0)).setCell (p := ⟨mb, 34, none⟩) rfl (.slice none 0 0)).setCell (p := ⟨mb, 38, none⟩) rfl (.int .i64 st)
 obtain ⟨Y, hY⟩ : ∃ Y : World, Y = ((X.setCell ⟨mb, 33, none⟩ (.slice none 0 0)).setCell ⟨mb, 34, none⟩ (.slice none 0 0)).setCell ⟨mb, 38, none⟩ (.int .i64 st) := ⟨_, rfl⟩
 rw [← hY] at hkY hcY
 have HP := hidden (mach_put0 ys hkY hbc.1 hy (hi.below (hcY.toBelow (Nat.le_trans hB (Nat.le_of_lt hmb)) (fun b hb e => by omega))) hB)
 have HBC := hidden hbc; have HY := hidden hY; have HCY := hidden hcY; have HX := hidden hX; have HB := hidden hb; have HS := hidden hs
 obtain ⟨a, c, rfl⟩ := insAt_len hi
 have HRW := hidden hrow
 clear hY hkY hcY hbc hX hkX hcX hb h33 h34 h38 r37 h37 hi hs hrow
 generalize ys.length = n at *
 go_enter Tryz.func73, Tryz.ntmps73
 go_upto_region 0 with fail
 refine wp_region_list ?_
 iterate 8 (refine wpList_plain rfl (fun K hK => ?_); go_simp; refine hK _ _ ?_; clear hK K)
 refine wpList_store_row rfl _ _ _ rfl mb 0 116 z33 cs rfl rfl HB.out (by rw [HS.out]; decide) (by kernel_rfl) (by decide +kernel) ?_
 rw [← HRW.out, ← HX.out]
 go_wp2_with fail
 rw [← HY.out]
 clear x33 x34 x37 x38 f33 f34 f38
 refine HP.out.mono ?_
 rintro e w' ⟨rfl, cs', hk', hm', hr', hc'⟩
 obtain ⟨_, b1, b2, b3, b4, b5, b6⟩ := HBC.out
 have HF : Hid (Blk w' mb cs' 116 ∧ BegC cs cs' ys st ∧ Chg (fun b => b = mb) w w') := hidden ⟨hk', ⟨hm', (hr' 33 (by omega)).trans b1, (hr' 34 (by omega)).trans b2, (hr' 35 (by omega)).trans b3, (hr' 36 (by omega)).trans b4, (hr' 37 (by omega)).trans b5, (hr' 38 (by omega)).trans b6⟩, HCY.out.trans hc'⟩
 clear hk' hm' hr' hc' b1 b2 b3 b4 b5 b6 HP HBC HY HCY HX HB HS HRW
 go_wp2_with fail
 go_end0
 exact ⟨rfl, cs', HF.out⟩
theorem row0 (B : Nat) (w : World) (t : TypeId) (k : Nat) : w.ownsRow B t k (.slice none 0 0) 0 [] := ⟨by simp, Or.inl ⟨rfl, rfl⟩⟩
theorem mach_new {B : Nat} {w : World} {rv iv vv jv : Value} {st wp : Nat} {code vars ins : List Int} (ys : List Int) (hc : CodeAt B w rv code) (hst : st ≤ code.length) (hcl : code.length ≤ 1000) (hy : ys.length ≤ 32) (hi : InsAt B w iv ys) (hB : B ≤ w.heap.size)
  (hwb : Blk w wp #[vv, .slice none 0 0, jv] 118) (hwp : B ≤ wp) (hv : IRow B w vv vars) (hj : InsAt B w jv ins) (hvl : vars.length ≤ 1000) (hjl : ins.length ≤ 20000000000000) :
  Calls Tryz.prog 47 #[rv, .int .i64 st, iv, .pointer (some ⟨wp, 0, none⟩)] w fun e w' => ∃ mb, e = .returned (.pointer (some ⟨mb, 0, none⟩)) ∧ w.heap.size ≤ mb ∧ RAt B w' ⟨mb, wp, rv, st, .slice none 0 0, .slice none 0 0, vv, .slice none 0 0, jv⟩ code ⟨ys.reverse, [], [], st⟩ ⟨vars, [], ins⟩ ∧ Below w.heap.size w w' := by
 obtain ⟨mb, hmb⟩ : ∃ mb, mb = w.heap.size := ⟨_, rfl⟩
 obtain ⟨rg, rn, rc, rfl⟩ : ∃ g n c, rv = .slice (some ⟨g, 0, none⟩) n c := by obtain ⟨g, c, h, _⟩ := hc; exact ⟨_, _, _, h⟩
 obtain ⟨a, c, hiv⟩ := insAt_len hi
 obtain ⟨cs, hcs⟩ : ∃ cs : Array Value, cs = #[.int .i64 0, .int .i64 0, .int .i64 0, .int .i64 0, .int .i64 0, .int .i64 0, .int .i64 0, .int .i64 0, .int .i64 0, .int .i64 0, .int .i64 0, .int .i64 0, .int .i64 0, .int .i64 0, .int .i64 0, .int .i64 0, .int .i64 0, .int .i64 0, .int .i64 0, .int .i64 0, .int .i64 0, .int .i64 0, .int .i64 0, .int .i64 0, .int .i64 0, .int .i64 0, .int .i64 0, .int .i64 0, .int .i64 0, .int .i64 0, .int .i64 0, .int .i64 0, .int .i64 0, .slice none 0 0, .slice none 0 0, .pointer (some ⟨wp, 0, none⟩), .slice (some ⟨rg, 0, none⟩) rn rc, .int .i64 st, .int .i64 0] := ⟨_, rfl⟩
 obtain ⟨W, hW⟩ : ∃ W : World, W = w.alloc (.cells #[.int .i64 0, .int .i64 0, .int .i64 0, .int .i64 0, .int .i64 0, .int .i64 0, .int .i64 0, .int .i64 0, .int .i64 0, .int .i64 0, .int .i64 0, .int .i64 0, .int .i64 0, .int .i64 0, .int .i64 0, .int .i64 0, .int .i64 0, .int .i64 0, .int .i64 0, .int .i64 0, .int .i64 0, .int .i64 0, .int .i64 0, .int .i64 0, .int .i64 0, .int .i64 0, .int .i64 0, .int .i64 0, .int .i64 0, .int .i64 0, .int .i64 0, .int .i64 0, .int .i64 0, .slice none 0 0, .slice none 0 0, .pointer (some ⟨wp, 0, none⟩), .slice (some ⟨rg, 0, none⟩) rn rc, .int .i64 st, .int .i64 0] 116 (0, 0)) := ⟨_, rfl⟩
 have hkW : Blk W mb cs 116 := by rw [hW, hcs, hmb]; exact blk_new w _ _
 have hbW : Below w.heap.size w W := by rw [hW]; exact (Below.refl _ _).alloc (Nat.le_refl _) _
 have h35 : cs[35]? = some (.pointer (some ⟨wp, 0, none⟩)) := by rw [hcs]; rfl
 have h36 : cs[36]? = some (.slice (some ⟨rg, 0, none⟩) rn rc) := by rw [hcs]; rfl
 have h37 : cs[37]? = some (.int .i64 st) := by rw [hcs]; rfl
 have H := hidden (mach_begin (B := B) (st := (st : Int)) ys hkW (by rw [hcs]; rfl) h37 hy (hi.below (hbW.mono hB)) (by omega))
 have HW := hidden hW; have HKW := hidden hkW; have HBW := hidden hbW; have HCS := hidden (And.intro h35 (And.intro h36 h37))
 clear hcs hW hkW hbW h35 h36 h37
 have hmm := HKW.out.lt
 have HMB := hidden hmb; have HC := hidden hc; have HI := hidden hi; have HIV := hidden hiv; have HWB := hidden hwb; have HV := hidden hv; have HJ := hidden hj
 subst hiv
 clear hmb hc hi hv hj hwb
 generalize hn : ys.length = n at *
 go_enter Tryz.func47, Tryz.ntmps47
 go_upto_region 2 with fail
 rw [← HW.out, ← HMB.out]
 go_wp2_with fail
 refine H.out.mono ?_
 rintro e w' ⟨rfl, cs', hk', hb', hc'⟩
 have HF := hidden (And.intro hk' (And.intro hb' hc'))
 clear H hk' hb' hc' HW
 go_wp2_with fail
 refine bodyPost_ret (v := .pointer (some ⟨mb, 0, none⟩)) (by simp [results, Tryz.results47, go_sem]) rfl ⟨mb, rfl, Nat.le_of_eq HMB.out.symm, ?_⟩
 obtain ⟨hk', hb', hc'⟩ := HF.out
 obtain ⟨q35, q36, q37⟩ := HCS.out
 have hBB : Below w.heap.size w w' := HBW.out.trans (hc'.toBelow HBW.out.size (fun b hb e => by have := HMB.out; omega))
 have hB2 := hBB.mono hB
 have hwl := HWB.out.lt
 have hir : ∀ {v : Value} {l : List Int}, IRow B w v l → IRow B w' v l := fun h => ownsRow_chg h (Chg.ofBelow hBB) (fun _ _ e => e)
 exact ⟨⟨⟨cs', hk', hb'.mc, hb'.c33, hb'.c34, hb'.c35.trans q35, hb'.c36.trans q36, hb'.c37.trans q37, hb'.c38⟩, row0 _ _ _ _, row0 _ _ _ _, HWB.out.sub hBB hwl, hir HV.out, row0 _ _ _ _, HJ.out.below hB2, HC.out.below hB2, fun k hk => by simp [Value.ownBlock] at hk, fun k hk h => by simp [Value.ownBlock] at h, by have := HMB.out; show B ≤ mb; omega, hwp, by simp, by simp, by simp, hjl, hvl, hcl, hst⟩, hBB⟩
end Go.Proofs.YtcphhbofjkenaaaGreatDoor
