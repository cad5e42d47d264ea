import Derived.BigQuiet
import Derived.Test.YtcphhbofjkenaaaGreatDoorP26
import Derived.Test.YtcphhbofjkenaaaGreatDoorP28
import Derived.Test.YtcphhbofjkenaaaGreatDoorP31
import Derived.Test.YtcphhbofjkenaaaGreatDoorP32

namespace Go.Proofs.YtcphhbofjkenaaaGreatDoor
open Go Go.RowKit
set_option linter.unusedVariables false
set_option linter.unusedSimpArgs false

theorem StkAt.get {cs : Array Value} : ∀ {s : List Int}, StkAt cs s → ∀ (i : Nat) (y : Int), s.reverse[i]? = some y → cs[i]? = some (.int .i64 y)
  | [], _, i, y, h => by simp at h
  | x :: r, h, i, y, hy => by
    rw [List.reverse_cons] at hy
    by_cases hi : i < r.length
    · rw [List.getElem?_append_left (by simpa using hi)] at hy
      exact h.2.get i y hy
    · rw [List.getElem?_append_right (by simpa using hi), List.length_reverse] at hy
      have hi0 : i - r.length = 0 := by
        have := (List.getElem?_eq_some_iff.1 hy).1
        simp at this; omega
      rw [hi0] at hy
      obtain rfl : x = y := by simpa using hy
      rw [show i = r.length by omega]; exact h.1

set_option maxRecDepth 100000 in
set_option maxHeartbeats 2000000 in
theorem ints_clone {w : World} {g c : Nat} (l : List Int) (hl : l.length ≤ 1100000) (hg : g < w.heap.size) (h : ∀ (i : Nat) (y : Int), l[i]? = some y → w.cell? ⟨g, i, none⟩ = some (.int .i64 y)) :
    Calls Tryz.prog 75 #[.slice (some ⟨g, 0, none⟩) l.length c] w fun e w' => ∃ v, e = .returned v ∧ IRow w.heap.size w' v l ∧ Below w.heap.size w w' := by
  have hnl := fun w => Lib.run_eql_slice_nil (P := Tryz.prog) w 24 3 (some ⟨g, 0, none⟩) l.length c 0 0 Tryz.underlying24
  simp only [Option.isNone_some] at hnl
  have H := hidden h
  clear h
  go_enter Tryz.func75, Tryz.ntmps75
  go_upto_region 3 with fail
  refine wp_region_list ?_
  iterate 2 (refine wpList_plain rfl (fun K hK => ?_); go_simp; refine hK _ _ ?_; clear hK K)
  have hb0 : Below w.heap.size w (w.alloc (.cells #[] 3 (0, 0))) := (Below.refl _ _).alloc (Nat.le_refl _) _
  have hown : (w.alloc (.cells #[] 3 (0, 0))).ownsRow w.heap.size 3 1 (.slice (some ⟨w.heap.size, 0, none⟩) 0 0) 0 [] := World.ownsRow_lit w #[] 0 (Nat.le_refl _) (by unfold maxLen; omega) rfl
  obtain ⟨i, hi, hz, hs, hb⟩ := info_parts Tryz.infoIn
  refine wpList_append_own _ rfl _ _ 24 rfl w.heap.size 3 i (.int .i64 0) 1 8 Tryz.underlying24 hi hz hs hb rfl (by decide) _ 0 [] rfl hown ⟨g, 0, none⟩ l.length c (ints l) rfl (by simp [ints]) (fun j u hu => ?_) (fun u hu => ?_) (by unfold maxLen; omega) (by omega) hb0.size ?_
  · unfold ints at hu
    rw [List.getElem?_map] at hu
    obtain ⟨y, hy, rfl⟩ := Option.map_eq_some_iff.1 hu
    rw [Addr.add_lit, Nat.zero_add, hb0.cell (p := ⟨g, j, none⟩) hg]
    exact H.out j y hy
  · obtain ⟨y, _, rfl⟩ := List.mem_map.1 hu; rfl
  intro v' w' hr hgr _
  have HF : Hid (IRow w.heap.size w' v' l ∧ Below w.heap.size w w') := by
    refine hidden ⟨?_, ?_⟩
    · rw [Nat.zero_add, List.nil_append] at hr; exact hr
    · exact hb0.trans ((Chg.ofGrown hgr).toBelow hb0.size (fun b hb e => by have : b = w.heap.size := Option.some.inj e; omega))
  obtain ⟨va, vn, vc, rfl⟩ : ∃ a n c, v' = .slice a n c := by
    rcases hr.2 with ⟨h, _⟩ | ⟨g', c', _, h, _⟩
    · exact ⟨_, _, _, h⟩
    · exact ⟨_, _, _, h⟩
  clear hr hgr hown hb0 hnl H
  go_wp2_with fail
  go_ret
  exact ⟨_, rfl, HF.out⟩

section
attribute [local go_sem] quietG
set_option maxRecDepth 100000 in
set_option maxHeartbeats 4000000 in
theorem mach_stack {w : World} {mb : Nat} {cs : Array Value} {s : List Int} (hb : Blk w mb cs 116) (h : MC cs s) :
    Calls Tryz.prog 50 #[.pointer (some ⟨mb, 0, none⟩)] w fun e w' => ∃ v, e = .returned v ∧ IRow w.heap.size w' v s.reverse ∧ Below w.heap.size w w' := by
  have hl := h.le
  have hmw := hb.lt
  obtain ⟨n, hn⟩ : ∃ n, n = s.length := ⟨_, rfl⟩
  have c32 : w.cell? ⟨mb, 32, none⟩ = some (.int .i64 n) := by rw [hn]; exact hb.cell 32 _ h.dep
  have hs0 : (0 : Int) ≤ (n : Int) := by omega
  have hs1 : (n : Int) ≤ 32 := by omega
  have hcl := ints_clone (w := w.drew) (g := mb) (c := 32) s.reverse (by rw [List.length_reverse]; omega) hmw (fun i y hy => hb.cell i _ (h.stk.get i y hy))
  rw [List.length_reverse, ← hn] at hcl
  have HCL := hidden hcl
  have k0 : ∀ u : {w' : World // w'.cell? ⟨mb, 32, none⟩ = some (.int .i64 n)}, u.val.cell? ⟨mb, 32, none⟩ = some (.int .i64 n) := fun u => u.property
  have hne : Nonempty {w' : World // w'.cell? ⟨mb, 32, none⟩ = some (.int .i64 n)} := ⟨⟨w, c32⟩⟩
  have HC := hidden (show w.drew.cell? ⟨mb, 32, none⟩ = some (.int .i64 n) from c32)
  clear hcl h hb c32 hl hn
  go_enter Tryz.func50, Tryz.ntmps50
  go_upto_region 1 with fail
  refine wp_region_turns (C := OneOf fun w' => w'.cell? ⟨mb, 32, none⟩ = some (.int .i64 n)) 9 [8] ⟨w.drew, HC.out⟩ (by kernel_rfl) (by kernel_rfl) rfl ?_
  rw [show List.range 9 = [0, 1, 2, 3, 4, 5, 6, 7, 8] from rfl]
  repeat (refine wpT_step rfl rfl (fun K hK => ?_); go_simp; refine hK _ ?_; clear hK K)
  refine wpT_call1 rfl rfl 75 #[.slice (some ⟨mb, 0, none⟩) n 32] (by go_simp) (HCL.out.mono ?_)
  rintro e w2 ⟨v, rfl, hr, hb⟩
  refine ⟨_, rfl, (hb.cell (p := ⟨mb, 32, none⟩) hmw).trans HC.out, ?_⟩
  have HF : Hid (IRow w.heap.size w2 v s.reverse ∧ Below w.heap.size w w2) := hidden ⟨hr, (Below.refl _ _).drew.trans hb⟩
  obtain ⟨va, vn, vc, rfl⟩ : ∃ a n c, v = .slice a n c := by
    rcases hr.2 with ⟨h, _⟩ | ⟨g', c', _, h, _⟩
    · exact ⟨_, _, _, h⟩
    · exact ⟨_, _, _, h⟩
  clear HCL
  refine wpT_end ?_
  intro w' hw'
  rw [show w' = w2 from hw']
  clear hw' w' k0 hne hr hb
  simp only [List.drop_succ_cons, List.drop_zero]
  go_wp2_with fail
  go_ret
  exact ⟨_, rfl, HF.out⟩
end

def outz : Array Value := #[.slice none 0 0, .slice none 0 0, .slice none 0 0, .int .i64 0, .int .i64 0]
theorem Blk.outz {w : World} {b : Nat} {t : TypeId} (h : Blk w b outz t) : w.cell? ⟨b, 0, none⟩ = some (.slice none 0 0) ∧ w.cell? ⟨b, 1, none⟩ = some (.slice none 0 0) ∧ w.cell? ⟨b, 2, none⟩ = some (.slice none 0 0) ∧ w.cell? ⟨b, 3, none⟩ = some (.int .i64 0) ∧ w.cell? ⟨b, 4, none⟩ = some (.int .i64 0) :=
  ⟨h.cell 0 _ rfl, h.cell 1 _ rfl, h.cell 2 _ rfl, h.cell 3 _ rfl, h.cell 4 _ rfl⟩
def out0 : Value := .agg #[.slice none 0 0, .slice none 0 0, .slice none 0 0, .int .i64 0, .int .i64 0]
def startOf : Option PE → Option Int
  | some e => if e.var = true then none else some e.place
  | none => none

structure RunOut (B : Nat) (w' : World) (sv ov vv : Value) (m : MS) (u : MW) : Prop where
  s : IRow B w' sv m.stk.reverse
  o : IRow B w' ov u.outs
  v : IRow B w' vv u.vars
  so : ∀ k, sv.ownBlock = some k → ov.ownBlock ≠ some k ∧ vv.ownBlock ≠ some k
  ov : ∀ k, ov.ownBlock = some k → vv.ownBlock ≠ some k

set_option maxRecDepth 100000 in
set_option maxHeartbeats 4000000 in
theorem forth_run_no {w : World} {bb : Nat} {ev cv : Value} {es : List PE} {nv nt : Int} {code : List Int} {B : Nat} {sv iv : Value} {st ins : List Int} (s : ByteArray) (f : Int) (h : PSys w bb ev cv es nv nt code) (hi : LInv es nv nt code)
    (hs : InsAt B w sv st) (hj : InsAt B w iv ins) (hB : B ≤ w.heap.size) (hl : st.length ≤ 1100000) (hl2 : ins.length ≤ 1100000) (hno : startOf (lastP es s es.length) = none ∨ mayR st ins f = false) :
    Calls Tryz.prog 21 #[.pointer (some ⟨bb, 0, none⟩), .string s, sv, iv, .int .i64 f] w fun e w' => e = .returned (.tuple #[out0, .int .i64 (if startOf (lastP es s es.length) = none then 3 else 1)]) ∧ Below w.heap.size w w' := by
  have hb := h.blk.lt
  have hS := fun w' (hb : Below w.heap.size w w') => book_Start s (h.below (w' := w') hb) (by have := hi.l; omega)
  have hM := fun w' (hb : Below w.heap.size w w') => forth_mayRun (w := w') f (hs.below (hb.mono hB)) (hj.below (hb.mono hB)) (Nat.le_trans hB hb.size) hl hl2
  obtain ⟨R, hR⟩ : ∃ R, R = startRes (lastP es s es.length) := ⟨_, rfl⟩
  obtain ⟨L, hL⟩ : ∃ L, L = lastP es s es.length := ⟨_, rfl⟩
  rw [← hL] at hno hS ⊢
  obtain ⟨a, c, rfl⟩ := insAt_len hs
  obtain ⟨a2, c2, rfl⟩ := insAt_len hj
  have HS := hidden hS; have HM := hidden hM
  clear h hi hs hj hR hL hS hM
  generalize st.length = n1 at *
  generalize ins.length = n2 at *
  cases hst : startOf L with
  | none =>
    have hre : startRes L = .tuple #[.int .i64 0, .int .i64 3] := by
      cases L with
      | none => rfl
      | some e =>
        unfold startOf at hst
        by_cases hv : e.var = true
        · simp [startRes, hv]
        · simp [hv] at hst
    rw [hre] at HS
    rw [if_pos rfl]
    clear hre hno hst HM
    go_enter Tryz.func21, Tryz.ntmps21
    go_wp2_with fail
    refine (forth_book bb _).mono ?_
    rintro e w' ⟨rfl, rfl⟩
    go_wp2_with fail
    have hb0 : Below w.heap.size w (w.alloc (.cells outz 43 (0, 0))) := (Below.refl _ _).alloc (Nat.le_refl _) _
    have hk0 := blk_new w outz 43
    refine (HS.out _ hb0).mono ?_
    rintro e w1 ⟨rfl, hb1⟩
    have hk1 := hk0.sub hb1 (by simp)
    have hlt1 := hk1.lt
    have HBW := hidden (hb0.trans (hb1.mono (by simp)))
    obtain ⟨g0, g1, g2, g3, g4⟩ := hk1.free
    obtain ⟨z0, z1, z2, z3, z4⟩ := hk1.outz
    clear hb0 hk0 hb1 hk1 HS
    go_wp2_with fail
    refine bodyPost_ret (v := .tuple #[out0, .int .i64 3]) (by simp [results, Tryz.results21, go_sem, z0, z1, z2, z3, z4, out0, hlt1]) rfl ⟨rfl, ?_⟩
    exact (((((HBW.out.setCell (Nat.le_refl _) _).setCell (Nat.le_refl _) _).setCell (Nat.le_refl _) _).setCell (Nat.le_refl _) _).setCell (Nat.le_refl _) _)
  | some p =>
    have hre : startRes L = .tuple #[.int .i64 p, .int .i64 0] := by
      cases L with
      | none => cases hst
      | some e =>
        unfold startOf at hst
        by_cases hv : e.var = true
        · simp [hv] at hst
        · simp [hv] at hst; simp [startRes, hv, hst]
    rw [hst] at hno
    have hmf := hno.resolve_left (by simp)
    rw [hre] at HS
    rw [hmf] at HM
    rw [if_neg (by simp)]
    clear hre hno hst hmf
    go_enter Tryz.func21, Tryz.ntmps21
    go_wp2_with fail
    refine (forth_book bb _).mono ?_
    rintro e w' ⟨rfl, rfl⟩
    go_wp2_with fail
    have hb0 : Below w.heap.size w (w.alloc (.cells outz 43 (0, 0))) := (Below.refl _ _).alloc (Nat.le_refl _) _
    have hk0 := blk_new w outz 43
    refine (HS.out _ hb0).mono ?_
    rintro e w1 ⟨rfl, hb1⟩
    have hk1 := hk0.sub hb1 (by simp)
    have hlt1 := hk1.lt
    have HBW := hidden (hb0.trans (hb1.mono (by simp)))
    obtain ⟨g0, g1, g2, g3, g4⟩ := hk1.free
    obtain ⟨z0, z1, z2, z3, z4⟩ := hk1.outz
    clear hb0 hk0 hb1 hk1 HS
    go_wp2_with fail
    refine (HM.out _ HBW.out).mono ?_
    rintro e w2 ⟨rfl, rfl⟩
    go_wp2_with fail
    refine bodyPost_ret (v := .tuple #[out0, .int .i64 1]) (by simp [results, Tryz.results21, go_sem, z0, z1, z2, z3, z4, out0, hlt1]) rfl ⟨rfl, ?_⟩
    exact (((((HBW.out.setCell (Nat.le_refl _) _).setCell (Nat.le_refl _) _).setCell (Nat.le_refl _) _).setCell (Nat.le_refl _) _).setCell (Nat.le_refl _) _)

end Go.Proofs.YtcphhbofjkenaaaGreatDoor

namespace Go.Proofs.YtcphhbofjkenaaaGreatDoor
open Go Go.RowKit
set_option linter.unusedVariables false
set_option linter.unusedSimpArgs false
attribute [local go_sem] quietG

def outV (sv ov vv : Value) (n : Int) (e : Int) : Value := .agg #[sv, ov, vv, .int .i64 n, .int .i64 e]

theorem irow_shape {B : Nat} {w : World} {v : Value} {l : List Int} (h : IRow B w v l) : ∃ a n c, v = .slice a n c := by
  rcases h.2 with ⟨h, _⟩ | ⟨g', c', _, h, _⟩
  · exact ⟨_, _, _, h⟩
  · exact ⟨_, _, _, h⟩

theorem codeAt_of {w : World} {bb : Nat} {ev cv : Value} {es : List PE} {nv nt : Int} {code : List Int} (h : PSys w bb ev cv es nv nt code) (hc : 0 < code.length) : CodeAt w.heap.size w cv code := by
  obtain ⟨g, cap, hv, h1, h2, h3, h4, h5⟩ := row_cells h.cod hc
  exact ⟨g, cap, hv, by omega, by omega, fun i x hx => h5 i _ (by rw [List.getElem?_map, hx]; rfl)⟩

theorem RunOut.chg {B : Nat} {w w' : World} {sv ov vv : Value} {m : MS} {u : MW} {b : Nat} {cs : Array Value} {t : TypeId} (h : RunOut B w sv ov vv m u) (hc : Chg (fun k => k = b) w w') (hb : Blk w b cs t) (ht : t ≠ 3) : RunOut B w' sv ov vv m u := by
  have hir : ∀ {v : Value} {l : List Int}, IRow B w v l → IRow B w' v l := fun h => ownsRow_chg h hc (fun k hk e => by subst e; exact own_blk h hb ht hk)
  exact ⟨hir h.s, hir h.o, hir h.v, h.so, h.ov⟩
theorem InsAt.mono {B C : Nat} {w : World} {iv : Value} {l : List Int} (h : InsAt B w iv l) (hb : B ≤ C) : InsAt C w iv l := by
  rcases h with h | ⟨pb, po, c, h1, h2, h3, h4⟩
  · exact Or.inl h
  · exact Or.inr ⟨pb, po, c, h1, h2, by omega, h4⟩
theorem irow_base {B C : Nat} {w : World} {v : Value} {l : List Int} (h : IRow B w v l) (hb : C ≤ B) : IRow C w v l := by
  refine ⟨h.1, ?_⟩
  rcases h.2 with h | ⟨g, cap, cur, h1, h2, h3⟩
  · exact Or.inl h
  · exact Or.inr ⟨g, cap, cur, h1, Nat.le_trans hb h2, h3⟩

set_option maxRecDepth 100000 in
set_option maxHeartbeats 4000000 in
theorem forth_run {w : World} {bb : Nat} {ev cv : Value} {es : List PE} {nv nt : Int} {code : List Int} {B : Nat} {sv iv : Value} {st ins : List Int} {p : Nat} (s : ByteArray) (f : Nat) (h : PSys w bb ev cv es nv nt code) (hi : LInv es nv nt code) (ht : Tab w)
    (hs : InsAt B w sv st) (hj : InsAt B w iv ins) (hB : B ≤ w.heap.size) (hl : st.length ≤ 1100000) (hl2 : ins.length ≤ 1100000) (hst : startOf (lastP es s es.length) = some (p : Int)) (hm : mayR st ins f = true) (hp : p < code.length)
    (I : Nat → MS → MW → Prop) (hI : I 0 ⟨st.reverse, [], [], p⟩ ⟨List.replicate nv.toNat 0, [], ins⟩) (hstep : ∀ n m u, n < f → I n m u → StepOk code m u ∧ ((stepM code m u).1 = 4 → I (n + 1) (stepM code m u).2.1 (stepM code m u).2.2)) :
    Calls Tryz.prog 21 #[.pointer (some ⟨bb, 0, none⟩), .string s, sv, iv, .int .i64 f] w fun e w' => ∃ xv ov vv, e = .returned (.tuple #[outV xv ov vv (runM code f 0 ⟨st.reverse, [], [], p⟩ ⟨List.replicate nv.toNat 0, [], ins⟩).1 (runM code f 0 ⟨st.reverse, [], [], p⟩ ⟨List.replicate nv.toNat 0, [], ins⟩).2.1, .int .i64 0]) ∧ RunOut w.heap.size w' xv ov vv (runM code f 0 ⟨st.reverse, [], [], p⟩ ⟨List.replicate nv.toNat 0, [], ins⟩).2.2.1 (runM code f 0 ⟨st.reverse, [], [], p⟩ ⟨List.replicate nv.toNat 0, [], ins⟩).2.2.2 ∧ Below w.heap.size w w' := by
  have hb := h.blk.lt
  have hgl : 3 ≤ w.heap.size := ht.lt
  have hi16 := hi.v1
  have hi0 := hi.v0
  have hc8 := hi.c
  have ht4 := hi.t1
  have hm' := hm
  simp only [mayR, Bool.and_eq_true, decide_eq_true_eq] at hm'
  obtain ⟨h32, _, _, _, hf6⟩ := hm'
  obtain ⟨nn, rfl⟩ : ∃ nn : Nat, nv = nn := ⟨nv.toNat, by omega⟩
  simp only [Int.toNat_natCast] at *
  have hS := fun w' (hb : Below w.heap.size w w') => book_Start s (h.below (w' := w') hb) (by have := hi.l; omega)
  have hM := fun w' (hb : Below w.heap.size w w') => forth_mayRun (w := w') f (hs.below (hb.mono hB)) (hj.below (hb.mono hB)) (Nat.le_trans hB hb.size) hl hl2
  have hV := fun w' (hb : Below w.heap.size w w') => book_Variables (h.below (w' := w') hb)
  have hC := fun w' (hb : Below w.heap.size w w') => book_Code (h.below (w' := w') hb)
  have hca := codeAt_of h (by omega)
  have hcS : ∃ g n c, cv = .slice (some ⟨g, 0, none⟩) n c := by obtain ⟨g, c, h, _⟩ := hca; exact ⟨_, _, _, h⟩
  obtain ⟨L, hL⟩ : ∃ L, L = lastP es s es.length := ⟨_, rfl⟩
  rw [← hL] at hst hS
  have hre : startRes L = .tuple #[.int .i64 p, .int .i64 0] := by
    cases L with
    | none => cases hst
    | some e =>
      unfold startOf at hst
      by_cases hv : e.var = true
      · simp [hv] at hst
      · simp [hv] at hst; simp [startRes, hv, hst]
  rw [hre] at hS
  rw [hm] at hM
  obtain ⟨m0, hm0⟩ : ∃ m0 : MS, m0 = ⟨st.reverse, [], [], p⟩ := ⟨_, rfl⟩
  obtain ⟨u0, hu0⟩ : ∃ u0 : MW, u0 = ⟨List.replicate nn 0, [], ins⟩ := ⟨_, rfl⟩
  rw [← hm0, ← hu0] at hI ⊢
  have hN : ∀ (w' : World) (wp vg : Nat), Below w.heap.size w w' → Blk w' wp #[.slice (some ⟨vg, 0, none⟩) nn nn, .slice none 0 0, iv] 118 → w.heap.size ≤ wp → IRow w.heap.size w' (.slice (some ⟨vg, 0, none⟩) nn nn) (List.replicate nn 0) → Calls Tryz.prog 47 #[cv, .int .i64 p, sv, .pointer (some ⟨wp, 0, none⟩)] w' fun e w2 => ∃ mb, e = .returned (.pointer (some ⟨mb, 0, none⟩)) ∧ w'.heap.size ≤ mb ∧ RAt w.heap.size w2 ⟨mb, wp, cv, p, .slice none 0 0, .slice none 0 0, .slice (some ⟨vg, 0, none⟩) nn nn, .slice none 0 0, iv⟩ code m0 u0 ∧ Below w'.heap.size w' w2 := fun w' wp vg hbl hwb hwp hv => by
    rw [hm0, hu0]
    exact mach_new (B := w.heap.size) (st := p) st (hca.below hbl) (by omega) (by omega) h32 ((hs.mono hB).below hbl) hbl.size hwb hwp hv ((hj.mono hB).below hbl) (by rw [List.length_replicate]; omega) (by omega)
  obtain ⟨R, hRR⟩ : ∃ R, R = runM code f 0 m0 u0 := ⟨_, rfl⟩
  have hR : ∀ (w' : World) (x : RX), RAt w.heap.size w' x code m0 u0 → Tab w' → Calls Tryz.prog 49 #[.pointer (some ⟨x.mb, 0, none⟩), .int .i64 f] w' fun e w2 => e = .returned (.tuple #[.int .i64 R.1, .int .i64 R.2.1]) ∧ RNext w.heap.size w' x code R.2.2.1 R.2.2.2 w2 := fun w' x hra htb => by
    rw [hRR]; exact mach_run I f (by omega) hI hstep hra htb hgl
  rw [← hRR]
  obtain ⟨a, c, rfl⟩ := insAt_len hs
  obtain ⟨a2, c2, rfl⟩ := insAt_len hj
  have HS := hidden hS; have HM := hidden hM; have HV := hidden hV; have HC := hidden hC; have HN := hidden hN; have HR := hidden hR; have HT := hidden ht
  obtain ⟨rg, rn, rc, rfl⟩ := hcS
  clear h hi hs hj hL hS hM hV hC hN hR hRR hm0 hu0 hI hstep hca hre hst hm ht
  obtain ⟨rsteps, rend, rm, ru⟩ := R
  simp only at HR ⊢
  generalize st.length = n1 at *
  generalize ins.length = n2 at *
  go_enter Tryz.func21, Tryz.ntmps21
  go_wp2_with fail
  refine (forth_book bb _).mono ?_
  rintro e w' ⟨rfl, rfl⟩
  go_wp2_with fail
  have hb0 : Below w.heap.size w (w.alloc (.cells outz 43 (0, 0))) := (Below.refl _ _).alloc (Nat.le_refl _) _
  have hk0 := blk_new w outz 43
  refine (HS.out _ hb0).mono ?_
  rintro e w1 ⟨rfl, hb1⟩
  have hk1 := hk0.sub hb1 (by simp)
  have HBW := hidden (hb0.trans (hb1.mono (by simp)))
  have HK1 := hidden hk1
  clear hb0 hk0 hb1 hk1 HS
  go_wp2_with fail
  refine (HM.out _ HBW.out).mono ?_
  rintro e w2 ⟨rfl, rfl⟩
  clear HM
  go_wp2_with fail
  refine (HV.out _ HBW.out).mono ?_
  rintro e w3 ⟨rfl, rfl⟩
  clear HV
  go_wp2_with fail
  refine (mach_newWorld (w := w3) nn (by omega) ⟨_, _, _, rfl⟩).mono ?_
  rintro e w4 ⟨wp, vg, rfl, h1, h2, h3, h4, h5⟩
  have HB4 := hidden (HBW.out.trans (h5.mono HBW.out.size))
  have HW4 := hidden (And.intro h3 (And.intro (Nat.le_trans HBW.out.size h1) (irow_base h4 HBW.out.size)))
  have HK4 := hidden (HK1.out.sub h5 HK1.out.lt)
  clear h1 h2 h3 h4 h5 HBW HK1
  go_wp2_with fail
  refine (HC.out _ HB4.out).mono ?_
  rintro e w5 ⟨rfl, rfl⟩
  clear HC
  go_wp2_with fail
  refine (HN.out w5 wp vg HB4.out HW4.out.1 HW4.out.2.1 HW4.out.2.2).mono ?_
  rintro e w6 ⟨mb, rfl, h1, h2, h3⟩
  have HB6 := hidden (HB4.out.trans (h3.mono HB4.out.size))
  have HK6 := hidden (HK4.out.sub h3 HK4.out.lt)
  have hmb : w.heap.size < mb := Nat.lt_of_lt_of_le HK4.out.lt h1
  have hwp : w.heap.size < wp := by
    have := HW4.out.2.1
    rcases Nat.lt_or_ge w.heap.size wp with h | h
    · exact h
    · exfalso
      obtain rfl : wp = w.heap.size := by omega
      exact absurd (blk_type HW4.out.1 HK4.out) (by decide)
  have HA6 := hidden h2
  have HMB := hidden (And.intro hmb hwp)
  clear h1 h2 h3 HN HB4 HW4 HK4 hmb hwp
  go_wp2_with fail
  refine (HR.out w6 _ HA6.out (HT.out.below HB6.out)).mono ?_
  rintro e w7 ⟨rfl, y, hy⟩
  obtain ⟨cs7, hk7, hc7⟩ := hy.at_.mac
  have hnS : ¬ RX.S ⟨mb, wp, .slice (some ⟨rg, 0, none⟩) rn rc, p, .slice none 0 0, .slice none 0 0, .slice (some ⟨vg, 0, none⟩) nn nn, .slice none 0 0, .slice a2 n2 c2⟩ w.heap.size := by
    rintro (e | e | e | e | e | e)
    · have := HMB.out.1; simp only at e; omega
    · have := HMB.out.2; simp only at e; omega
    · simp [Value.ownBlock] at e
    · simp [Value.ownBlock] at e
    · exact own_blk HA6.out.vrow HK6.out (by decide) e
    · simp [Value.ownBlock] at e
  have hk8 := HK6.out.chg hy.chg hnS
  have hlt1 := hk8.lt
  have q35 := hk7.cell 35 _ hc7.c35
  have q0 := hy.at_.wblk.cell 0 _ rfl
  have q1 := hy.at_.wblk.cell 1 _ rfl
  have hST := mach_stack (w := w7.drew) hk7 hc7.mc
  have hmbe := hy.mb
  have hwpe := hy.wp
  simp only at hmbe hwpe
  rw [hmbe] at hST q35
  rw [hwpe] at q35 q0 q1
  obtain ⟨vv, hvv⟩ : ∃ vv, vv = y.vv := ⟨_, rfl⟩
  obtain ⟨ov, hov⟩ : ∃ ov, ov = y.ov := ⟨_, rfl⟩
  rw [← hvv] at q0
  rw [← hov] at q1
  have hvr : IRow w.heap.size w7 vv ru.vars := by rw [hvv]; exact hy.at_.vrow
  have hor : IRow w.heap.size w7 ov ru.outs := by rw [hov]; exact hy.at_.orow
  have hsep : ∀ k, vv.ownBlock = some k → ov.ownBlock ≠ some k := by rw [hvv, hov]; exact hy.at_.sepv
  have hB7 : Below w.heap.size w w7 := HB6.out.trans (HA6.out.toBelow hy.chg (fun _ e => e))
  have hmb7 : mb < w7.heap.size := by rw [← hmbe]; exact hk7.lt
  have hwp7 : wp < w7.heap.size := by rw [← hwpe]; exact hy.at_.wblk.lt
  have HF := hidden (And.intro hvr (And.intro hor (And.intro hsep hB7))); have HK8 := hidden hk8; have HST := hidden hST
  obtain ⟨va, vn, vc, rfl⟩ := irow_shape hvr
  obtain ⟨oa, on, oc, rfl⟩ := irow_shape hor
  have k35 : ∀ u : {w' : World // w'.cell? ⟨mb, 35, none⟩ = some (.pointer (some ⟨wp, 0, none⟩)) ∧ w'.cell? ⟨wp, 0, none⟩ = some (.slice va vn vc) ∧ w'.cell? ⟨wp, 1, none⟩ = some (.slice oa on oc)}, u.val.cell? ⟨mb, 35, none⟩ = some (.pointer (some ⟨wp, 0, none⟩)) := fun u => u.property.1
  have k0 : ∀ u : {w' : World // w'.cell? ⟨mb, 35, none⟩ = some (.pointer (some ⟨wp, 0, none⟩)) ∧ w'.cell? ⟨wp, 0, none⟩ = some (.slice va vn vc) ∧ w'.cell? ⟨wp, 1, none⟩ = some (.slice oa on oc)}, u.val.cell? ⟨wp, 0, none⟩ = some (.slice va vn vc) := fun u => u.property.2.1
  have k1 : ∀ u : {w' : World // w'.cell? ⟨mb, 35, none⟩ = some (.pointer (some ⟨wp, 0, none⟩)) ∧ w'.cell? ⟨wp, 0, none⟩ = some (.slice va vn vc) ∧ w'.cell? ⟨wp, 1, none⟩ = some (.slice oa on oc)}, u.val.cell? ⟨wp, 1, none⟩ = some (.slice oa on oc) := fun u => u.property.2.2
  have hne : Nonempty {w' : World // w'.cell? ⟨mb, 35, none⟩ = some (.pointer (some ⟨wp, 0, none⟩)) ∧ w'.cell? ⟨wp, 0, none⟩ = some (.slice va vn vc) ∧ w'.cell? ⟨wp, 1, none⟩ = some (.slice oa on oc)} := ⟨⟨w7, q35, q0, q1⟩⟩
  have HQ := hidden (And.intro q35 (And.intro q0 q1))
  clear hk7 hc7 hnS hk8 q35 q0 q1 hST hvv hov hvr hor hsep hB7 hy HR HA6 HB6 HK6 HMB HT hmbe hwpe
  go_upto_region 10 with fail
  refine wp_region_order (C := OneOf fun w' => w'.cell? ⟨mb, 35, none⟩ = some (.pointer (some ⟨wp, 0, none⟩)) ∧ w'.cell? ⟨wp, 0, none⟩ = some (.slice va vn vc) ∧ w'.cell? ⟨wp, 1, none⟩ = some (.slice oa on oc)) 21 [0, 1, 2, 4, 5, 6, 7, 8, 9, 10, 11, 12, 13, 14, 15, 16, 17, 18, 19, 3, 20] [3] ⟨w7.drew, HQ.out⟩ (by kernel_rfl) (by kernel_rfl) rfl ?_
  repeat (refine wpT_step rfl rfl (fun K hK => ?_); go_simp; refine hK _ ?_; clear hK K)
  refine wpT_call1 rfl rfl 50 #[.pointer (some ⟨mb, 0, none⟩)] (by go_simp) (HST.out.mono ?_)
  rintro e w8 ⟨v, rfl, hr8, hb8⟩
  have hb8' : Below w7.heap.size w7 w8 := (Below.refl _ _).drew.trans hb8
  refine ⟨_, rfl, ⟨(hb8'.cell (p := ⟨mb, 35, none⟩) hmb7).trans HQ.out.1, (hb8'.cell (p := ⟨wp, 0, none⟩) hwp7).trans HQ.out.2.1, (hb8'.cell (p := ⟨wp, 1, none⟩) hwp7).trans HQ.out.2.2⟩, ?_⟩
  obtain ⟨hvr, hor, hsep, hB7⟩ := HF.out
  have hfin : RunOut w.heap.size w8 v (.slice oa on oc) (.slice va vn vc) rm ru := by
    have hir : ∀ {u : Value} {l : List Int}, IRow w.heap.size w7 u l → IRow w.heap.size w8 u l := fun h => ownsRow_chg h (Chg.ofBelow hb8') (fun _ _ e => e)
    have hge : ∀ k, v.ownBlock = some k → w7.heap.size ≤ k := fun k hk => own_base hr8 hk
    exact ⟨irow_base hr8 hB7.size, hir hor, hir hvr, fun k hk => ⟨fun e => by have := own_lt hor e; have := hge k hk; omega, fun e => by have := own_lt hvr e; have := hge k hk; omega⟩, fun k hk e => hsep k e hk⟩
  have HFIN : Hid (RunOut w.heap.size w8 v (.slice oa on oc) (.slice va vn vc) rm ru ∧ Below w.heap.size w w8) := hidden ⟨hfin, hB7.trans (hb8'.mono hB7.size)⟩
  have hk9 := HK8.out.sub hb8' hlt1
  have HK9 := hidden hk9
  obtain ⟨xa, xn, xc, rfl⟩ := irow_shape hr8
  clear hfin hvr hor hsep hB7 HF HST HK8 hk9
  repeat (refine wpT_step rfl rfl (fun K hK => ?_); go_simp; refine hK _ ?_; clear hK K)
  refine wpT_end ?_
  intro w' hw'
  rw [show w' = w8 from hw']
  clear hw' w' k0 k1 k35 hne hr8 hb8 hb8' HQ
  simp only [List.drop_succ_cons, List.drop_zero]
  have hlt9 := HK9.out.lt
  obtain ⟨g0, g1, g2, g3, g4⟩ := HK9.out.free
  obtain ⟨z0, z1, z2, z3, z4⟩ := HK9.out.outz
  go_wp2_with fail
  refine bodyPost_ret (v := .tuple #[outV (.slice xa xn xc) (.slice oa on oc) (.slice va vn vc) rsteps rend, .int .i64 0]) (by simp [results, Tryz.results21, go_sem, z0, z1, z2, z3, z4, outV, hlt9]) rfl ⟨_, _, _, rfl, ?_, ?_⟩
  · have hcc := (((((Chg.refl (fun b => b = w.heap.size) w8).setCell (p := ⟨w.heap.size, 0, none⟩) rfl (.slice xa xn xc)).setCell (p := ⟨w.heap.size, 1, none⟩) rfl (.slice oa on oc)).setCell (p := ⟨w.heap.size, 2, none⟩) rfl (.slice va vn vc)).setCell (p := ⟨w.heap.size, 3, none⟩) rfl (.int .i64 rsteps)).setCell (p := ⟨w.heap.size, 4, none⟩) rfl (.int .i64 rend)
    exact HFIN.out.1.chg hcc HK9.out (by decide)
  · exact (((((HFIN.out.2.setCell (Nat.le_refl _) _).setCell (Nat.le_refl _) _).setCell (Nat.le_refl _) _).setCell (Nat.le_refl _) _).setCell (Nat.le_refl _) _)

end Go.Proofs.YtcphhbofjkenaaaGreatDoor

namespace Go.Proofs.YtcphhbofjkenaaaGreatDoor
open Go Go.RowKit
set_option linter.unusedVariables false
set_option linter.unusedSimpArgs false
attribute [local go_sem] quietG

theorem keep_sameInts {w : World} {b1 b2 : Nat} {v1 v2 : Value} {l : List Int} (h1 : IRow b1 w v1 l) (h2 : IRow b2 w v2 l) (hl : l.length ≤ 2000000) :
    Calls Tryz.prog 51 #[v1, v2] w fun e w' => e = .returned (.bool true) ∧ Below w.heap.size w w' := by
  obtain ⟨a1, c1, rfl, hc1, _⟩ := row_shape h1
  obtain ⟨a2, c2, rfl, hc2, _⟩ := row_shape h2
  have k1 : ∀ (j : Nat) (hj : j < l.length), ∃ g, a1 = some ⟨g, 0, none⟩ ∧ g < w.heap.size ∧ w.cell? ⟨g, j, none⟩ = some (.int .i64 l[j]) := fun j hj => by
    obtain ⟨g, cap, hv, _, hg, _, _, hcc⟩ := row_cells h1 (by omega)
    exact ⟨g, by simpa using (by injection hv : a1 = some ⟨g, 0, none⟩), hg, hcc j _ (by simp [ints, hj])⟩
  have k2 : ∀ (j : Nat) (hj : j < l.length), ∃ g, a2 = some ⟨g, 0, none⟩ ∧ g < w.heap.size ∧ w.cell? ⟨g, j, none⟩ = some (.int .i64 l[j]) := fun j hj => by
    obtain ⟨g, cap, hv, _, hg, _, _, hcc⟩ := row_cells h2 (by omega)
    exact ⟨g, by simpa using (by injection hv : a2 = some ⟨g, 0, none⟩), hg, hcc j _ (by simp [ints, hj])⟩
  have K1 := hidden k1; have K2 := hidden k2
  clear h1 h2 k1 k2
  obtain ⟨n, hn⟩ : ∃ n, n = l.length := ⟨_, rfl⟩
  rw [← hn] at hc1 hc2 hl ⊢
  have HN := hidden hn
  clear hn
  have hee : ((n : Int) != (n : Int)) = false := by simp
  go_enter Tryz.func51, Tryz.ntmps51
  go_wp2_with fail
  go_loopw [5] (fun i wr => ∃ j : Nat, j ≤ n ∧ i = .int .i64 j ∧ Hid (Below w.heap.size w wr)) (fun i _ => n - (intOf i).toNat)
  case atStart => exact ⟨0, Nat.zero_le _, rfl, hidden (Below.refl _ _)⟩
  case round =>
    obtain ⟨j, hj, rfl, HW⟩ := hrel
    by_cases hlt : j < n
    · have hji : (j : Int) < (n : Int) := by omega
      have hj0 : (0 : Int) ≤ (j : Int) := by omega
      have hjl : j < l.length := by rw [← HN.out]; exact hlt
      obtain ⟨g1, rfl, hg1, x1⟩ := K1.out j hjl
      obtain ⟨g2, rfl, hg2, x2⟩ := K2.out j hjl
      obtain ⟨z, hz⟩ : ∃ z, z = l[j] := ⟨_, rfl⟩
      rw [← hz] at x1 x2
      have y1 : wr.cell? ⟨g1, j, none⟩ = some (.int .i64 z) := (HW.out.cell (p := ⟨g1, j, none⟩) hg1).trans x1
      have y2 : wr.cell? ⟨g2, j, none⟩ = some (.int .i64 z) := (HW.out.cell (p := ⟨g2, j, none⟩) hg2).trans x2
      have hzz : (z != z) = false := by simp
      clear hz x1 x2
      go_wp2_with fail
      go_quiet (fail)
      go_wp2_with fail
      go_roundw
      case rel => exact ⟨j + 1, by omega, by go_num, hidden (HW.out.trans ⟨rfl, rfl, rfl, Nat.le_refl _, fun _ _ => rfl⟩)⟩
      case measure => simp [intOf]; omega
    · obtain rfl : j = n := by omega
      have hji : ¬ (j : Int) < (j : Int) := by omega
      go_wp2_with fail
      go_ret
      exact ⟨rfl, HW.out⟩

structure OutK (B : Nat) (w : World) (xv ov vv : Value) (X O V : List Int) : Prop where
  s : IRow B w xv X
  o : IRow B w ov O
  v : IRow B w vv V
theorem OutK.below {B : Nat} {w w' : World} {xv ov vv : Value} {X O V : List Int} (h : OutK B w xv ov vv X O V) (hb : Below w.heap.size w w') : OutK B w' xv ov vv X O V :=
  have f : ∀ {v : Value} {l : List Int}, IRow B w v l → IRow B w' v l := fun h => ownsRow_chg h (Chg.ofBelow (S := fun _ => False) hb) (fun _ _ => id)
  ⟨f h.s, f h.o, f h.v⟩

set_option maxRecDepth 100000 in
set_option maxHeartbeats 4000000 in
theorem keep_alike {w : World} {B1 B2 : Nat} {xa oa va xa' oa' va' : Option Addr} {xn xc on oc vn vc xn' xc' on' oc' vn' vc' : Nat} {X O V : List Int} (N E : Int) (h1 : OutK B1 w (.slice xa xn xc) (.slice oa on oc) (.slice va vn vc) X O V) (h2 : OutK B2 w (.slice xa' xn' xc') (.slice oa' on' oc') (.slice va' vn' vc') X O V) (hx : X.length ≤ 2000000) (ho : O.length ≤ 2000000) (hv : V.length ≤ 2000000) :
    Calls Tryz.prog 22 #[.agg #[.slice xa xn xc, .slice oa on oc, .slice va vn vc, .int .i64 N, .int .i64 E], .agg #[.slice xa' xn' xc', .slice oa' on' oc', .slice va' vn' vc', .int .i64 N, .int .i64 E]] w fun e w' => e = .returned (.bool true) ∧ Below w.heap.size w w' := by
  obtain ⟨ab, hab⟩ : ∃ ab, ab = w.heap.size := ⟨_, rfl⟩
  obtain ⟨Y3, hY3⟩ : ∃ Y : World, Y = w.alloc (.cells #[.slice xa xn xc, .slice oa on oc, .slice va vn vc, .int .i64 N, .int .i64 E] 43 (0, 0)) := ⟨_, rfl⟩
  have hb3 : Below w.heap.size w Y3 := by rw [hY3]; exact (Below.refl _ _).alloc (Nat.le_refl _) _
  have hkA : Blk Y3 ab #[.slice xa xn xc, .slice oa on oc, .slice va vn vc, .int .i64 N, .int .i64 E] 43 := by rw [hY3, hab]; exact blk_new w _ _
  obtain ⟨bb, hbb⟩ : ∃ bb, bb = Y3.heap.size := ⟨_, rfl⟩
  obtain ⟨Y4, hY4⟩ : ∃ Y : World, Y = Y3.alloc (.cells #[.slice xa' xn' xc', .slice oa' on' oc', .slice va' vn' vc', .int .i64 N, .int .i64 E] 43 (0, 0)) := ⟨_, rfl⟩
  have hb4 : Below Y3.heap.size Y3 Y4 := by rw [hY4]; exact (Below.refl _ _).alloc (Nat.le_refl _) _
  have hkB : Blk Y4 bb #[.slice xa' xn' xc', .slice oa' on' oc', .slice va' vn' vc', .int .i64 N, .int .i64 E] 43 := by rw [hY4, hbb]; exact blk_new Y3 _ _
  have hb6 : Below w.heap.size w Y4 := hb3.trans (hb4.mono hb3.size)
  have hkA6 := hkA.sub hb4 hkA.lt
  have hR16 := h1.below hb6
  have hR26 := h2.below hb6
  have x0 : Y4.cell? ⟨ab, 0, none⟩ = some (.slice xa xn xc) := hkA6.cell 0 _ rfl
  have y0 : Y4.cell? ⟨bb, 0, none⟩ = some (.slice xa' xn' xc') := hkB.cell 0 _ rfl
  have HS1 := hidden (keep_sameInts hR16.s hR26.s hx)
  have HY3 := hidden hY3; have HY4 := hidden hY4; have HAB := hidden hab; have HBB : Hid (ab + 1 = bb) := hidden (by rw [hbb, hY3, hab]; simp)
  have HB6 := hidden hb6; have HKA6 := hidden hkA6; have HKB6 := hidden hkB; have HR16 := hidden hR16; have HR26 := hidden hR26
  have hla := hkA6.lt; have hlb := hkB.lt
  clear h1 h2 hab hY3 hb3 hkA hbb hY4 hb4 hkB hb6 hkA6 hR16 hR26
  go_enter Tryz.func22, Tryz.ntmps22
  go_upto_region 1 with fail
  rw [← HY3.out, ← HAB.out, HBB.out, ← HY4.out]
  go_wp2_with fail
  refine HS1.out.mono ?_
  rintro e w7 ⟨rfl, hb7⟩
  have hR17 := HR16.out.below hb7
  have hR27 := HR26.out.below hb7
  have hkA7 := HKA6.out.sub hb7 HKA6.out.lt
  have hkB7 := HKB6.out.sub hb7 HKB6.out.lt
  have x1 : w7.cell? ⟨ab, 1, none⟩ = some (.slice oa on oc) := hkA7.cell 1 _ rfl
  have y1 : w7.cell? ⟨bb, 1, none⟩ = some (.slice oa' on' oc') := hkB7.cell 1 _ rfl
  have HS2 := hidden (keep_sameInts hR17.o hR27.o ho)
  have HB7 := hidden (HB6.out.trans (hb7.mono HB6.out.size)); have HKA7 := hidden hkA7; have HKB7 := hidden hkB7; have HR17 := hidden hR17; have HR27 := hidden hR27
  clear hb7 hR17 hR27 hkA7 hkB7 HS1 HKA6 HKB6 HR16 HR26 HB6 x0 y0
  go_wp2_with fail
  refine HS2.out.mono ?_
  rintro e w8 ⟨rfl, hb8⟩
  have hR18 := HR17.out.below hb8
  have hR28 := HR27.out.below hb8
  have hkA8 := HKA7.out.sub hb8 HKA7.out.lt
  have hkB8 := HKB7.out.sub hb8 HKB7.out.lt
  have x2 : w8.cell? ⟨ab, 2, none⟩ = some (.slice va vn vc) := hkA8.cell 2 _ rfl
  have y2 : w8.cell? ⟨bb, 2, none⟩ = some (.slice va' vn' vc') := hkB8.cell 2 _ rfl
  have HS3 := hidden (keep_sameInts hR18.v hR28.v hv)
  have HB8 := hidden (HB7.out.trans (hb8.mono HB7.out.size)); have HKA8 := hidden hkA8; have HKB8 := hidden hkB8
  clear hb8 hR18 hR28 hkA8 hkB8 HS2 HKA7 HKB7 HR17 HR27 HB7 x1 y1
  go_wp2_with fail
  refine HS3.out.mono ?_
  rintro e w9 ⟨rfl, hb9⟩
  have hkA9 := HKA8.out.sub hb9 HKA8.out.lt
  have hkB9 := HKB8.out.sub hb9 HKB8.out.lt
  have x3 : w9.cell? ⟨ab, 3, none⟩ = some (.int .i64 N) := hkA9.cell 3 _ rfl
  have x4 : w9.cell? ⟨ab, 4, none⟩ = some (.int .i64 E) := hkA9.cell 4 _ rfl
  have y3 : w9.cell? ⟨bb, 3, none⟩ = some (.int .i64 N) := hkB9.cell 3 _ rfl
  have y4 : w9.cell? ⟨bb, 4, none⟩ = some (.int .i64 E) := hkB9.cell 4 _ rfl
  have HB9 := hidden (HB8.out.trans (hb9.mono HB8.out.size))
  have hnN : (N == N) = true := by simp
  have hnE : (E == E) = true := by simp
  clear hb9 hkA9 hkB9 HS3 HKA8 HKB8 HB8 x2 y2
  go_wp2_with fail
  go_ret
  exact ⟨rfl, HB9.out⟩

end Go.Proofs.YtcphhbofjkenaaaGreatDoor

namespace Go.Proofs.YtcphhbofjkenaaaGreatDoor
open Go Go.RowKit
set_option linter.unusedVariables false
set_option linter.unusedSimpArgs false

structure Fr where
  its : List IT
  i : Nat
  beh : Nat
  n : Int
  e : Int
structure DM where
  fs : List (Value × Fr)
  stk : List Int
  done : Bool
  ed : Int
structure DX where
  mb : Nat
  wp : Nat
  fv : Value
  tv : Value
  cv : Value
  iv : Value
  ov : Value
  full : List Int
  tk : Nat
section
variable {B : Nat} {w w' : World} {sb : Nat} {F : Nat → Prop} {x : DX} {m m' : DM} {u u' : MW}

end

end Go.Proofs.YtcphhbofjkenaaaGreatDoor

namespace Go.Proofs.YtcphhbofjkenaaaGreatDoor
open Go Go.RowKit
set_option linter.unusedVariables false
set_option linter.unusedSimpArgs false

section
variable {B : Nat} {w w' : World} {sb : Nat} {F : Nat → Prop} {x : DX} {m m' : DM} {u u' : MW}

end

end Go.Proofs.YtcphhbofjkenaaaGreatDoor

namespace Go.Proofs.YtcphhbofjkenaaaGreatDoor
open Go Go.RowKit
set_option linter.unusedVariables false
set_option linter.unusedSimpArgs false
attribute [local go_sem] quietG

section
variable {B : Nat} {w w' : World} {sb : Nat} {F : Nat → Prop} {x : DX} {m m' : DM} {u u' : MW}

end

end Go.Proofs.YtcphhbofjkenaaaGreatDoor

namespace Go.Proofs.YtcphhbofjkenaaaGreatDoor
open Go Go.RowKit
set_option linter.unusedVariables false
set_option linter.unusedSimpArgs false
attribute [local go_sem] quietG

section
variable {B : Nat} {w w' : World} {sb : Nat} {F : Nat → Prop} {x : DX} {m m' : DM} {u u' : MW}

end

end Go.Proofs.YtcphhbofjkenaaaGreatDoor

namespace Go.Proofs.YtcphhbofjkenaaaGreatDoor
open Go Go.RowKit
set_option linter.unusedVariables false
set_option linter.unusedSimpArgs false
attribute [local go_sem] quietG

def opP (k : Nat) (n : Int) (s : List Int) (u : MW) : List Int × MW := ((execM k 0 ⟨s, [(n, 0)], [], 0⟩ u).2.1.stk, (execM k 0 ⟨s, [(n, 0)], [], 0⟩ u).2.2)

section
variable {B : Nat} {w w' : World} {sb : Nat} {F : Nat → Prop} {x : DX} {m m' : DM} {u u' : MW}

end

end Go.Proofs.YtcphhbofjkenaaaGreatDoor
