import Derived.Test.YtcphhbofjkenaaaGreatDoorU21
import Derived.Test.YtcphhbofjkenaaaGreatDoorU28
namespace Go.Proofs.YtcphhbofjkenaaaGreatDoor
open Go Go.RowKit
set_option linter.unusedVariables false
set_option linter.unusedSimpArgs false
theorem StkAt.get {cs : Array Value} : ∀ {s : List Int}, StkAt cs s → ∀ (i : Nat) (y : Int), s.reverse[i]? = some y → cs[i]? = some (.int .i64 y)
 | [], _, i, y, h => by simp at h
 | x :: r, h, i, y, hy => by
  rw [List.reverse_cons] at hy
  by_cases hi : i < r.length
  ·rw [List.getElem?_append_left (by simpa using hi)] at hy
   exact h.2.get i y hy
  ·rw [List.getElem?_append_right (by simpa using hi), List.length_reverse] at hy
   have hi0 : i - r.length = 0 := by
    have := (List.getElem?_eq_some_iff.1 hy).1
    simp at this; omega
   rw [hi0] at hy
   obtain rfl : x = y := by simpa using hy
   rw [show i = r.length by omega]; exact h.1
set_option maxRecDepth 100000 in
set_option maxHeartbeats 2000000 in
theorem ints_clone {w : World} {g c : Nat} (l : List Int) (hl : l.length ≤ 1100000) (hg : g < w.heap.size) (h : ∀ (i : Nat) (y : Int), l[i]? = some y → w.cell? ⟨g, i, none⟩ = some (.int .i64 y)) :
  Calls Tryz.prog 75 #[.slice (some ⟨g, 0, none⟩) l.length c] w fun e w' => ∃ v, e = .returned v ∧ IRow w.heap.size w' v l ∧ Below w.heap.size w w' := by
 have hnl := fun w => Lib.run_eql_slice_nil (P := Tryz.prog) w 24 3 (some ⟨g, 0, none⟩) l.length c 0 0 Tryz.underlying24
 simp only [Option.isNone_some] at hnl
 have H := hidden h
 clear h
 go_enter Tryz.func75, Tryz.ntmps75
 go_upto_region 3 with fail
 refine wp_region_list ?_
 iterate 2 (refine wpList_plain rfl (fun K hK => ?_); go_simp; refine hK _ _ ?_; clear hK K)
 have hb0 : Below w.heap.size w (w.alloc (.cells #[] 3 (0, 0))) := (Below.refl _ _).alloc (Nat.le_refl _) _
 have hown : (w.alloc (.cells #[] 3 (0, 0))).ownsRow w.heap.size 3 1 (.slice (some ⟨w.heap.size, 0, none⟩) 0 0) 0 [] := World.ownsRow_lit w #[] 0 (Nat.le_refl _) (by unfold maxLen; omega) rfl
 obtain ⟨i, hi, hz, hs, hb⟩ := info_parts Tryz.infoIn
 refine wpList_append_own _ rfl _ _ 24 rfl w.heap.size 3 i (.int .i64 0) 1 8 Tryz.underlying24 hi hz hs hb rfl (by decide) _ 0 [] rfl hown ⟨g, 0, none⟩ l.length c (ints l) rfl (by simp [ints]) (fun j u hu => ?_) (fun u hu => ?_) (by unfold maxLen; omega) (by omega) hb0.size ?_
 ·unfold ints at hu
  rw [List.getElem?_map] at hu
  obtain ⟨y, hy, rfl⟩ := Option.map_eq_some_iff.1 hu
  rw [Addr.add_lit, Nat.zero_add, hb0.cell (p := ⟨g, j, none⟩) hg]
  exact H.out j y hy
 ·obtain ⟨y, _, rfl⟩ := List.mem_map.1 hu; rfl
 intro v' w' hr hgr _
 have HF : Hid (IRow w.heap.size w' v' l ∧ Below w.heap.size w w') := by
  refine hidden ⟨?_, ?_⟩
  ·rw [Nat.zero_add, List.nil_append] at hr; exact hr
  ·exact hb0.trans ((Chg.ofGrown hgr).toBelow hb0.size (fun b hb e => by have : b = w.heap.size := Option.some.inj e; omega))
 obtain ⟨va, vn, vc, rfl⟩ : ∃ a n c, v' = .slice a n c := by
  rcases hr.2 with ⟨h, _⟩ | ⟨g', c', _, h, _⟩
  ·exact ⟨_, _, _, h⟩
  ·exact ⟨_, _, _, h⟩
 clear hr hgr hown hb0 hnl H
 go_wp2_with fail
 go_ret
 exact ⟨_, rfl, HF.out⟩
section
attribute [local go_sem] quietG
set_option maxRecDepth 100000 in
set_option maxHeartbeats 4000000 in
theorem mach_stack {w : World} {mb : Nat} {cs : Array Value} {s : List Int} (hb : Blk w mb cs 116) (h : MC cs s) :
  Calls Tryz.prog 50 #[.pointer (some ⟨mb, 0, none⟩)] w fun e w' => ∃ v, e = .returned v ∧ IRow w.heap.size w' v s.reverse ∧ Below w.heap.size w w' := by
 have hl := h.le
 have hmw := hb.lt
 obtain ⟨n, hn⟩ : ∃ n, n = s.length := ⟨_, rfl⟩
 have c32 : w.cell? ⟨mb, 32, none⟩ = some (.int .i64 n) := by rw [hn]; exact hb.cell 32 _ h.dep
 have hs0 : (0 : Int) ≤ (n : Int) := by omega
 have hs1 : (n : Int) ≤ 32 := by omega
 have hcl := ints_clone (w := w.drew) (g := mb) (c := 32) s.reverse (by rw [List.length_reverse]; omega) hmw (fun i y hy => hb.cell i _ (h.stk.get i y hy))
 rw [List.length_reverse, ← hn] at hcl
 have HCL := hidden hcl
 have k0 : ∀ u : {w' : World // w'.cell? ⟨mb, 32, none⟩ = some (.int .i64 n)}, u.val.cell? ⟨mb, 32, none⟩ = some (.int .i64 n) := fun u => u.property
 have hne : Nonempty {w' : World // w'.cell? ⟨mb, 32, none⟩ = some (.int .i64 n)} := ⟨⟨w, c32⟩⟩
 have HC := hidden (show w.drew.cell? ⟨mb, 32, none⟩ = some (.int .i64 n) from c32)
 clear hcl h hb c32 hl hn
 go_enter Tryz.func50, Tryz.ntmps50
 go_upto_region 1 with fail
 refine wp_region_turns (C := OneOf fun w' => w'.cell? ⟨mb, 32, none⟩ = some (.int .i64 n)) 9 [8] ⟨w.drew, HC.out⟩ (by kernel_rfl) (by kernel_rfl) rfl ?_
 rw [show List.range 9 = [0, 1, 2, 3, 4, 5, 6, 7, 8] from rfl]
 repeat (refine wpT_step rfl rfl (fun K hK => ?_); go_simp; refine hK _ ?_; clear hK K)
 refine wpT_call1 rfl rfl 75 #[.slice (some ⟨mb, 0, none⟩) n 32] (by go_simp) (HCL.out.mono ?_)
 rintro e w2 ⟨v, rfl, hr, hb⟩
 refine ⟨_, rfl, (hb.cell (p := ⟨mb, 32, none⟩) hmw).trans HC.out, ?_⟩
 have HF : Hid (IRow w.heap.size w2 v s.reverse ∧ Below w.heap.size w w2) := hidden ⟨hr, (Below.refl _ _).drew.trans hb⟩
 obtain ⟨va, vn, vc, rfl⟩ : ∃ a n c, v = .slice a n c := by
  rcases hr.2 with ⟨h, _⟩ | ⟨g', c', _, h, _⟩
  ·exact ⟨_, _, _, h⟩
  ·exact ⟨_, _, _, h⟩
 clear HCL
 refine wpT_end ?_
 intro w' hw'
 rw [show w' = w2 from hw']
 clear hw' w' k0 hne hr hb
 simp only [List.drop_succ_cons, List.drop_zero]
 go_wp2_with fail
 go_ret
 exact ⟨_, rfl, HF.out⟩
end
def outz : Array Value := #[.slice none 0 0, .slice none 0 0, .slice none 0 0, .int .i64 0, .int .i64 0]
theorem Blk.outz {w : World} {b : Nat} {t : TypeId} (h : Blk w b outz t) : w.cell? ⟨b, 0, none⟩ = some (.slice none 0 0) ∧ w.cell? ⟨b, 1, none⟩ = some (.slice none 0 0) ∧ w.cell? ⟨b, 2, none⟩ = some (.slice none 0 0) ∧ w.cell? ⟨b, 3, none⟩ = some (.int .i64 0) ∧ w.cell? ⟨b, 4, none⟩ = some (.int .i64 0) :=
 ⟨h.cell 0 _ rfl, h.cell 1 _ rfl, h.cell 2 _ rfl, h.cell 3 _ rfl, h.cell 4 _ rfl⟩
def out0 : Value := .agg #[.slice none 0 0, .slice none 0 0, .slice none 0 0, .int .i64 0, .int .i64 0]
def startOf : Option PE → Option Int
 | some e => if e.var = true then none else some e.place
 | none => none
structure RunOut (B : Nat) (w' : World) (sv ov vv : Value) (m : MS) (u : MW) : Prop where
 s : IRow B w' sv m.stk.reverse
 o : IRow B w' ov u.outs
 v : IRow B w' vv u.vars
 so : ∀ k, sv.ownBlock = some k → ov.ownBlock ≠ some k ∧ vv.ownBlock ≠ some k
 ov : ∀ k, ov.ownBlock = some k → vv.ownBlock ≠ some k
set_option maxRecDepth 100000 in
set_option maxHeartbeats 4000000 in
theorem forth_run_no {w : World} {bb : Nat} {ev cv : Value} {es : List PE} {nv nt : Int} {code : List Int} {B : Nat} {sv iv : Value} {st ins : List Int} (s : ByteArray) (f : Int) (h : PSys w bb ev cv es nv nt code) (hi : LInv es nv nt code)
  (hs : InsAt B w sv st) (hj : InsAt B w iv ins) (hB : B ≤ w.heap.size) (hl : st.length ≤ 17592186043904) (hl2 : ins.length ≤ 17592186043904) (hno : startOf (lastP es s es.length) = none ∨ mayR st ins f = false) :
  Calls Tryz.prog 21 #[.pointer (some ⟨bb, 0, none⟩), .string s, sv, iv, .int .i64 f] w fun e w' => e = .returned (.tuple #[out0, .int .i64 (if startOf (lastP es s es.length) = none then 3 else 1)]) ∧ Below w.heap.size w w' := by
 have hb := h.blk.lt
 have hS := fun w' (hb : Below w.heap.size w w') => book_Start s (h.below (w' := w') hb) (by have := hi.l; omega)
 have hM := fun w' (hb : Below w.heap.size w w') => forth_mayRun (w := w') f (hs.below (hb.mono hB)) (hj.below (hb.mono hB)) (Nat.le_trans hB hb.size) hl hl2
 obtain ⟨R, hR⟩ : ∃ R, R = startRes (lastP es s es.length) := ⟨_, rfl⟩
 obtain ⟨L, hL⟩ : ∃ L, L = lastP es s es.length := ⟨_, rfl⟩
 rw [← hL] at hno hS ⊢
 obtain ⟨a, c, rfl⟩ := insAt_len hs
 obtain ⟨a2, c2, rfl⟩ := insAt_len hj
 have HS := hidden hS; have HM := hidden hM
 clear h hi hs hj hR hL hS hM
 generalize st.length = n1 at *
 generalize ins.length = n2 at *
 cases hst : startOf L with
 | none =>
  have hre : startRes L = .tuple #[.int .i64 0, .int .i64 3] := by
   cases L with
   | none => rfl
   | some e =>
    unfold startOf at hst
    by_cases hv : e.var = true
    ·simp [startRes, hv]
    ·simp [hv] at hst
  rw [hre] at HS
  rw [if_pos rfl]
  clear hre hno hst HM
  go_enter Tryz.func21, Tryz.ntmps21
  go_wp2_with fail
  refine (forth_book bb _).mono ?_
  rintro e w' ⟨rfl, rfl⟩
  go_wp2_with fail
  have hb0 : Below w.heap.size w (w.alloc (.cells outz 43 (0, 0))) := (Below.refl _ _).alloc (Nat.le_refl _) _
  have hk0 := blk_new w outz 43
  refine (HS.out _ hb0).mono ?_
  rintro e w1 ⟨rfl, hb1⟩
  have hk1 := hk0.sub hb1 (by simp)
  have hlt1 := hk1.lt
  have HBW := hidden (hb0.trans (hb1.mono (by simp)))
  obtain ⟨g0, g1, g2, g3, g4⟩ := hk1.free
  obtain ⟨z0, z1, z2, z3, z4⟩ := hk1.outz
  clear hb0 hk0 hb1 hk1 HS
  go_wp2_with fail
  refine bodyPost_ret (v := .tuple #[out0, .int .i64 3]) (by simp [results, Tryz.results21, go_sem, z0, z1, z2, z3, z4, out0, hlt1]) rfl ⟨rfl, ?_⟩
  exact (((((HBW.out.setCell (Nat.le_refl _) _).setCell (Nat.le_refl _) _).setCell (Nat.le_refl _) _).setCell (Nat.le_refl _) _).setCell (Nat.le_refl _) _)
 | some p =>
  have hre : startRes L = .tuple #[.int .i64 p, .int .i64 0] := by
   cases L with
   | none => cases hst
   | some e =>
    unfold startOf at hst
    by_cases hv : e.var = true
    ·simp [hv] at hst
    ·simp [hv] at hst; simp [startRes, hv, hst]
  rw [hst] at hno
  have hmf := hno.resolve_left (by simp)
  rw [hre] at HS
  rw [hmf] at HM
  rw [if_neg (by simp)]
  clear hre hno hst hmf
  go_enter Tryz.func21, Tryz.ntmps21
  go_wp2_with fail
  refine (forth_book bb _).mono ?_
  rintro e w' ⟨rfl, rfl⟩
  go_wp2_with fail
  have hb0 : Below w.heap.size w (w.alloc (.cells outz 43 (0, 0))) := (Below.refl _ _).alloc (Nat.le_refl _) _
  have hk0 := blk_new w outz 43
  refine (HS.out _ hb0).mono ?_
  rintro e w1 ⟨rfl, hb1⟩
  have hk1 := hk0.sub hb1 (by simp)
  have hlt1 := hk1.lt
  have HBW := hidden (hb0.trans (hb1.mono (by simp)))
  obtain ⟨g0, g1, g2, g3, g4⟩ := hk1.free
  obtain ⟨z0, z1, z2, z3, z4⟩ := hk1.outz
  clear hb0 hk0 hb1 hk1 HS
  go_wp2_with fail
  refine (HM.out _ HBW.out).mono ?_
  rintro e w2 ⟨rfl, rfl⟩
  go_wp2_with fail
  refine bodyPost_ret (v := .tuple #[out0, .int .i64 1]) (by simp [results, Tryz.results21, go_sem, z0, z1, z2, z3, z4, out0, hlt1]) rfl ⟨rfl, ?_⟩
  exact (((((HBW.out.setCell (Nat.le_refl _) _).setCell (Nat.le_refl _) _).setCell (Nat.le_refl _) _).setCell (Nat.le_refl _) _).setCell (Nat.le_refl _) _)
end Go.Proofs.YtcphhbofjkenaaaGreatDoor
namespace Go.Proofs.YtcphhbofjkenaaaGreatDoor
open Go Go.RowKit
set_option linter.unusedVariables false
set_option linter.unusedSimpArgs false
attribute [local go_sem] quietG
def outV (sv ov vv : Value) (n : Int) (e : Int) : Value := .agg #[sv, ov, vv, .int .i64 n, .int .i64 e]
theorem irow_shape {B : Nat} {w : World} {v : Value} {l : List Int} (h : IRow B w v l) : ∃ a n c, v = .slice a n c := by
 rcases h.2 with ⟨h, _⟩ | ⟨g', c', _, h, _⟩
 ·exact ⟨_, _, _, h⟩
 ·exact ⟨_, _, _, h⟩
theorem codeAt_of {w : World} {bb : Nat} {ev cv : Value} {es : List PE} {nv nt : Int} {code : List Int} (h : PSys w bb ev cv es nv nt code) (hc : 0 < code.length) : CodeAt w.heap.size w cv code := by
 obtain ⟨g, cap, hv, h1, h2, h3, h4, h5⟩ := row_cells h.cod hc
 exact ⟨g, cap, hv, by omega, by omega, fun i x hx => h5 i _ (by rw [List.getElem?_map, hx]; rfl)⟩
theorem RunOut.chg {B : Nat} {w w' : World} {sv ov vv : Value} {m : MS} {u : MW} {b : Nat} {cs : Array Value} {t : TypeId} (h : RunOut B w sv ov vv m u) (hc : Chg (fun k => k = b) w w') (hb : Blk w b cs t) (ht : t ≠ 3) : RunOut B w' sv ov vv m u := by
 have hir : ∀ {v : Value} {l : List Int}, IRow B w v l → IRow B w' v l := fun h => ownsRow_chg h hc (fun k hk e => by subst e; exact own_blk h hb ht hk)
 exact ⟨hir h.s, hir h.o, hir h.v, h.so, h.ov⟩
theorem InsAt.mono {B C : Nat} {w : World} {iv : Value} {l : List Int} (h : InsAt B w iv l) (hb : B ≤ C) : InsAt C w iv l := by
 rcases h with h | ⟨pb, po, c, h1, h2, h3, h4⟩
 ·exact Or.inl h
 ·exact Or.inr ⟨pb, po, c, h1, h2, by omega, h4⟩
theorem irow_base {B C : Nat} {w : World} {v : Value} {l : List Int} (h : IRow B w v l) (hb : C ≤ B) : IRow C w v l := by
 refine ⟨h.1, ?_⟩
 rcases h.2 with h | ⟨g, cap, cur, h1, h2, h3⟩
 ·exact Or.inl h
 ·exact Or.inr ⟨g, cap, cur, h1, Nat.le_trans hb h2, h3⟩
set_option maxRecDepth 100000 in
set_option maxHeartbeats 4000000 in
theorem forth_run {w : World} {bb : Nat} {ev cv : Value} {es : List PE} {nv nt : Int} {code : List Int} {B : Nat} {sv iv : Value} {st ins : List Int} {p : Nat} (s : ByteArray) (f : Nat) (h : PSys w bb ev cv es nv nt code) (hi : LInv es nv nt code) (ht : Tab w)
  (hs : InsAt B w sv st) (hj : InsAt B w iv ins) (hB : B ≤ w.heap.size) (hl : st.length ≤ 17592186043904) (hl2 : ins.length ≤ 17592186043904) (hst : startOf (lastP es s es.length) = some (p : Int)) (hm : mayR st ins f = true) (hp : p < code.length)
  (I : Nat → MS → MW → Prop) (hI : I 0 ⟨st.reverse, [], [], p⟩ ⟨List.replicate nv.toNat 0, [], ins⟩) (hstep : ∀ n m u, n < f → I n m u → StepOk code m u ∧ ((stepM code m u).1 = 4 → I (n + 1) (stepM code m u).2.1 (stepM code m u).2.2)) :
  Calls Tryz.prog 21 #[.pointer (some ⟨bb, 0, none⟩), .string s, sv, iv, .int .i64 f] w fun e w' => ∃ xv ov vv, e = .returned (.tuple #[outV xv ov vv (runM code f 0 ⟨st.reverse, [], [], p⟩ ⟨List.replicate nv.toNat 0, [], ins⟩).1 (runM code f 0 ⟨st.reverse, [], [], p⟩ ⟨List.replicate nv.toNat 0, [], ins⟩).2.1, .int .i64 0]) ∧ RunOut w.heap.size w' xv ov vv (runM code f 0 ⟨st.reverse, [], [], p⟩ ⟨List.replicate nv.toNat 0, [], ins⟩).2.2.1 (runM code f 0 ⟨st.reverse, [], [], p⟩ ⟨List.replicate nv.toNat 0, [], ins⟩).2.2.2 ∧ Below w.heap.size w w' := by
 have hb := h.blk.lt
 have hgl : 3 ≤ w.heap.size := ht.lt
 have hi16 := hi.v1
 have hi0 := hi.v0
 have hc8 := hi.c
 have ht4 := hi.t1
 have hm' := hm
 simp only [mayR, Bool.and_eq_true, decide_eq_true_eq] at hm'
 obtain ⟨h32, _, _, _, hf6⟩ := hm'
 obtain ⟨nn, rfl⟩ : ∃ nn : Nat, nv = nn := ⟨nv.toNat, by omega⟩
 simp only [Int.toNat_natCast] at *
 have hS := fun w' (hb : Below w.heap.size w w') => book_Start s (h.below (w' := w') hb) (by have := hi.l; omega)
 have hM := fun w' (hb : Below w.heap.size w w') => forth_mayRun (w := w') f (hs.below (hb.mono hB)) (hj.below (hb.mono hB)) (Nat.le_trans hB hb.size) hl hl2
 have hV := fun w' (hb : Below w.heap.size w w') => book_Variables (h.below (w' := w') hb)
 have hC := fun w' (hb : Below w.heap.size w w') => book_Code (h.below (w' := w') hb)
 have hca := codeAt_of h (by omega)
 have hcS : ∃ g n c, cv = .slice (some ⟨g, 0, none⟩) n c := by obtain ⟨g, c, h, _⟩ := hca; exact ⟨_, _, _, h⟩
 obtain ⟨L, hL⟩ : ∃ L, L = lastP es s es.length := ⟨_, rfl⟩
 rw [← hL] at hst hS
 have hre : startRes L = .tuple #[.int .i64 p, .int .i64 0] := by
  cases L with
  | none => cases hst
  | some e =>
   unfold startOf at hst
   by_cases hv : e.var = true
   ·simp [hv] at hst
   ·simp [hv] at hst; simp [startRes, hv, hst]
 rw [hre] at hS
 rw [hm] at hM
 obtain ⟨m0, hm0⟩ : ∃ m0 : MS, m0 = ⟨st.reverse, [], [], p⟩ := ⟨_, rfl⟩
 obtain ⟨u0, hu0⟩ : ∃ u0 : MW, u0 = ⟨List.replicate nn 0, [], ins⟩ := ⟨_, rfl⟩
 rw [← hm0, ← hu0] at hI ⊢
 have hN : ∀ (w' : World) (wp vg : Nat), Below w.heap.size w w' → Blk w' wp #[.slice (some ⟨vg, 0, none⟩) nn nn, .slice none 0 0, iv] 118 → w.heap.size ≤ wp → IRow w.heap.size w' (.slice (some ⟨vg, 0, none⟩) nn nn) (List.replicate nn 0) → Calls Tryz.prog 47 #[cv, .int .i64 p, sv, .pointer (some ⟨wp, 0, none⟩)] w' fun e w2 => ∃ mb, e = .returned (.pointer (some ⟨mb, 0, none⟩)) ∧ w'.heap.size ≤ mb ∧ RAt w.heap.size w2 ⟨mb, wp, cv, p, .slice none 0 0, .slice none 0 0, .slice (some ⟨vg, 0, none⟩) nn nn, .slice none 0 0, iv⟩ code m0 u0 ∧ Below w'.heap.size w' w2 := fun w' wp vg hbl hwb hwp hv => by
  rw [hm0, hu0]
  exact mach_new (B := w.heap.size) (st := p) st (hca.below hbl) (by omega) (by omega) h32 ((hs.mono hB).below hbl) hbl.size hwb hwp hv ((hj.mono hB).below hbl) (by rw [List.length_replicate]; omega) (by omega)
 obtain ⟨R, hRR⟩ : ∃ R, R = runM code f 0 m0 u0 := ⟨_, rfl⟩
 have hR : ∀ (w' : World) (x : RX), RAt w.heap.size w' x code m0 u0 → Tab w' → Calls Tryz.prog 49 #[.pointer (some ⟨x.mb, 0, none⟩), .int .i64 f] w' fun e w2 => e = .returned (.tuple #[.int .i64 R.1, .int .i64 R.2.1]) ∧ RNext w.heap.size w' x code R.2.2.1 R.2.2.2 w2 := fun w' x hra htb => by
  rw [hRR]; exact mach_run I f (by omega) hI hstep hra htb hgl
 rw [← hRR]
 obtain ⟨a, c, rfl⟩ := insAt_len hs
 obtain ⟨a2, c2, rfl⟩ := insAt_len hj
 have HS := hidden hS; have HM := hidden hM; have HV := hidden hV; have HC := hidden hC; have HN := hidden hN; have HR := hidden hR; have HT := hidden ht
 obtain ⟨rg, rn, rc, rfl⟩ := hcS
 clear h hi hs hj hL hS hM hV hC hN hR hRR hm0 hu0 hI hstep hca hre hst hm ht
 obtain ⟨rsteps, rend, rm, ru⟩ := R
 simp only at HR ⊢
 generalize st.length = n1 at *
 generalize ins.length = n2 at *
 go_enter Tryz.func21, Tryz.ntmps21
 go_wp2_with fail
 refine (forth_book bb _).mono ?_
 rintro e w' ⟨rfl, rfl⟩
 go_wp2_with fail
 have hb0 : Below w.heap.size w (w.alloc (.cells outz 43 (0, 0))) := (Below.refl _ _).alloc (Nat.le_refl _) _
 have hk0 := blk_new w outz 43
 refine (HS.out _ hb0).mono ?_
 rintro e w1 ⟨rfl, hb1⟩
 have hk1 := hk0.sub hb1 (by simp)
 have HBW := hidden (hb0.trans (hb1.mono (by simp)))
 have HK1 := hidden hk1
 clear hb0 hk0 hb1 hk1 HS
 go_wp2_with fail
 refine (HM.out _ HBW.out).mono ?_
 rintro e w2 ⟨rfl, rfl⟩
 clear HM
 go_wp2_with fail
 refine (HV.out _ HBW.out).mono ?_
 rintro e w3 ⟨rfl, rfl⟩
 clear HV
 go_wp2_with fail
 refine (mach_newWorld (w := w3) nn (by omega) ⟨_, _, _, rfl⟩).mono ?_
 rintro e w4 ⟨wp, vg, rfl, h1, h2, h3, h4, h5⟩
 have HB4 := hidden (HBW.out.trans (h5.mono HBW.out.size))
 have HW4 := hidden (And.intro h3 (And.intro (Nat.le_trans HBW.out.size h1) (irow_base h4 HBW.out.size)))
 have HK4 := hidden (HK1.out.sub h5 HK1.out.lt)
 clear h1 h2 h3 h4 h5 HBW HK1
 go_wp2_with fail
 refine (HC.out _ HB4.out).mono ?_
 rintro e w5 ⟨rfl, rfl⟩
 clear HC
 go_wp2_with fail
 refine (HN.out w5 wp vg HB4.out HW4.out.1 HW4.out.2.1 HW4.out.2.2).mono ?_
 rintro e w6 ⟨mb, rfl, h1, h2, h3⟩
 have HB6 := hidden (HB4.out.trans (h3.mono HB4.out.size))
 have HK6 := hidden (HK4.out.sub h3 HK4.out.lt)
 have hmb : w.heap.size < mb := Nat.lt_of_lt_of_le HK4.out.lt h1
 have hwp : w.heap.size < wp := by
  have := HW4.out.2.1
  rcases Nat.lt_or_ge w.heap.size wp with h | h
  ·exact h
  ·exfalso
   obtain rfl : wp = w.heap.size := by omega
   exact absurd (blk_type HW4.out.1 HK4.out) (by decide)
 have HA6 := hidden h2
 have HMB := hidden (And.intro hmb hwp)
 clear h1 h2 h3 HN HB4 HW4 HK4 hmb hwp
 go_wp2_with fail
 refine (HR.out w6 _ HA6.out (HT.out.below HB6.out)).mono ?_
 rintro e w7 ⟨rfl, y, hy⟩
 obtain ⟨cs7, hk7, hc7⟩ := hy.at_.mac
 have hnS : ¬ RX.S ⟨mb, wp, .slice (some ⟨rg, 0, none⟩) rn rc, p, .slice none 0 0, .slice none 0 0, .slice (some ⟨vg, 0, none⟩) nn nn, .slice none 0 0, .slice a2 n2 c2⟩ w.heap.size := by
  rintro (e | e | e | e | e | e)
  ·have := HMB.out.1; simp only at e; omega
  ·have := HMB.out.2; simp only at e; omega
  ·simp [Value.ownBlock] at e
  ·simp [Value.ownBlock] at e
  ·exact own_blk HA6.out.vrow HK6.out (by decide) e
  ·simp [Value.ownBlock] at e
 have hk8 := HK6.out.chg hy.chg hnS
 have hlt1 := hk8.lt
 have q35 := hk7.cell 35 _ hc7.c35
 have q0 := hy.at_.wblk.cell 0 _ rfl
 have q1 := hy.at_.wblk.cell 1 _ rfl
 have hST := mach_stack (w := w7.drew) hk7 hc7.mc
 have hmbe := hy.mb
 have hwpe := hy.wp
 simp only at hmbe hwpe
 rw [hmbe] at hST q35
 rw [hwpe] at q35 q0 q1
 obtain ⟨vv, hvv⟩ : ∃ vv, vv = y.vv := ⟨_, rfl⟩
 obtain ⟨ov, hov⟩ : ∃ ov, ov = y.ov := ⟨_, rfl⟩
 rw [← hvv] at q0
 rw [← hov] at q1
 have hvr : IRow w.heap.size w7 vv ru.vars := by rw [hvv]; exact hy.at_.vrow
 have hor : IRow w.heap.size w7 ov ru.outs := by rw [hov]; exact hy.at_.orow
 have hsep : ∀ k, vv.ownBlock = some k → ov.ownBlock ≠ some k := by rw [hvv, hov]; exact hy.at_.sepv
 have hB7 : Below w.heap.size w w7 := HB6.out.trans (HA6.out.toBelow hy.chg (fun _ e => e))
 have hmb7 : mb < w7.heap.size := by rw [← hmbe]; exact hk7.lt
 have hwp7 : wp < w7.heap.size := by rw [← hwpe]; exact hy.at_.wblk.lt
 have HF := hidden (And.intro hvr (And.intro hor (And.intro hsep hB7))); have HK8 := hidden hk8; have HST := hidden hST
 obtain ⟨va, vn, vc, rfl⟩ := irow_shape hvr
 obtain ⟨oa, on, oc, rfl⟩ := irow_shape hor
 have k35 : ∀ u : {w' : World // w'.cell? ⟨mb, 35, none⟩ = some (.pointer (some ⟨wp, 0, none⟩)) ∧ w'.cell? ⟨wp, 0, none⟩ = some (.slice va vn vc) ∧ w'.cell? ⟨wp, 1, none⟩ = some (.slice oa on oc)}, u.val.cell? ⟨mb, 35, none⟩ = some (.pointer (some ⟨wp, 0, none⟩)) := fun u => u.property.1
 have k0 : ∀ u : {w' : World // w'.cell? ⟨mb, 35, none⟩ = some (.pointer (some ⟨wp, 0, none⟩)) ∧ w'.cell? ⟨wp, 0, none⟩ = some (.slice va vn vc) ∧ w'.cell? ⟨wp, 1, none⟩ = some (.slice oa on oc)}, u.val.cell? ⟨wp, 0, none⟩ = some (.slice va vn vc) := fun u => u.property.2.1
 have k1 : ∀ u : {w' : World // w'.cell? ⟨mb, 35, none⟩ = some (.pointer (some ⟨wp, 0, none⟩)) ∧ w'.cell? ⟨wp, 0, none⟩ = some (.slice va vn vc) ∧ w'.cell? ⟨wp, 1, none⟩ = some (.slice oa on oc)}, u.val.cell? ⟨wp, 1, none⟩ = some (.slice oa on oc) := fun u => u.property.2.2
 have hne : Nonempty {w' : World // w'.cell? ⟨mb, 35, none⟩ = some (.pointer (some ⟨wp, 0, none⟩)) ∧ w'.cell? ⟨wp, 0, none⟩ = some (.slice va vn vc) ∧ w'.cell? ⟨wp, 1, none⟩ = some (.slice oa on oc)} := ⟨⟨w7, q35, q0, q1⟩⟩
 have HQ := hidden (And.intro q35 (And.intro q0 q1))
 clear hk7 hc7 hnS hk8 q35 q0 q1 hST hvv hov hvr hor hsep hB7 hy HR HA6 HB6 HK6 HMB HT hmbe hwpe
 go_upto_region 10 with fail
 refine wp_region_order (C := OneOf fun w' => w'.cell? ⟨mb, 35, none⟩ = some (.pointer (some ⟨wp, 0, none⟩)) ∧ w'.cell? ⟨wp, 0, none⟩ = some (.slice va vn vc) ∧ w'.cell? ⟨wp, 1, none⟩ = some (.slice oa on oc)) 21 [0, 1, 2, 4, 5, 6, 7, 8, 9, 10, 11, 12, 13, 14, 15, 16, 17, 18, 19, 3, 20] [3] ⟨w7.drew, HQ.out⟩ (by kernel_rfl) (by kernel_rfl) rfl ?_
 repeat (refine wpT_step rfl rfl (fun K hK => ?_); go_simp; refine hK _ ?_; clear hK K)
 refine wpT_call1 rfl rfl 50 #[.pointer (some ⟨mb, 0, none⟩)] (by go_simp) (HST.out.mono ?_)
 rintro e w8 ⟨v, rfl, hr8, hb8⟩
 have hb8' : Below w7.heap.size w7 w8 := (Below.refl _ _).drew.trans hb8
 refine ⟨_, rfl, ⟨(hb8'.cell (p := ⟨mb, 35, none⟩) hmb7).trans HQ.out.1, (hb8'.cell (p := ⟨wp, 0, none⟩) hwp7).trans HQ.out.2.1, (hb8'.cell (p := ⟨wp, 1, none⟩) hwp7).trans HQ.out.2.2⟩, ?_⟩
 obtain ⟨hvr, hor, hsep, hB7⟩ := HF.out
 have hfin : RunOut w.heap.size w8 v (.slice oa on oc) (.slice va vn vc) rm ru := by
  have hir : ∀ {u : Value} {l : List Int}, IRow w.heap.size w7 u l → IRow w.heap.size w8 u l := fun h => ownsRow_chg h (Chg.ofBelow hb8') (fun _ _ e => e)
  have hge : ∀ k, v.ownBlock = some k → w7.heap.size ≤ k := fun k hk => own_base hr8 hk
  exact ⟨irow_base hr8 hB7.size, hir hor, hir hvr, fun k hk => ⟨fun e => by have := own_lt hor e; have := hge k hk; omega, fun e => by have := own_lt hvr e; have := hge k hk; omega⟩, fun k hk e => hsep k e hk⟩
 have HFIN : Hid (RunOut w.heap.size w8 v (.slice oa on oc) (.slice va vn vc) rm ru ∧ Below w.heap.size w w8) := hidden ⟨hfin, hB7.trans (hb8'.mono hB7.size)⟩
 have hk9 := HK8.out.sub hb8' hlt1
 have HK9 := hidden hk9
 obtain ⟨xa, xn, xc, rfl⟩ := irow_shape hr8
 clear hfin hvr hor hsep hB7 HF HST HK8 hk9
 repeat (refine wpT_step rfl rfl (fun K hK => ?_); go_simp; refine hK _ ?_; clear hK K)
 refine wpT_end ?_
 intro w' hw'
 rw [show w' = w8 from hw']
 clear hw' w' k0 k1 k35 hne hr8 hb8 hb8' HQ
 simp only [List.drop_succ_cons, List.drop_zero]
 have hlt9 := HK9.out.lt
 obtain ⟨g0, g1, g2, g3, g4⟩ := HK9.out.free
 obtain ⟨z0, z1, z2, z3, z4⟩ := HK9.out.outz
 go_wp2_with fail
 refine bodyPost_ret (v := .tuple #[outV (.slice xa xn xc) (.slice oa on oc) (.slice va vn vc) rsteps rend, .int .i64 0]) (by simp [results, Tryz.results21, go_sem, z0, z1, z2, z3, z4, outV, hlt9]) rfl ⟨_, _, _, rfl, ?_, ?_⟩
 ·have hcc := (((((Chg.refl (fun b => b = w.heap.size) w8).setCell (p := ⟨w.heap.size, 0, none⟩) rfl (.slice xa xn xc)).setCell (p := ⟨w.heap.size, 1, none⟩) rfl (.slice oa on oc)).setCell (p := ⟨w.heap.size, 2, none⟩) rfl (.slice va vn vc)).setCell (p := ⟨w.heap.size, 3, none⟩) rfl (.int .i64 rsteps)).setCell (p := ⟨w.heap.size, 4, none⟩) rfl (.int .i64 rend)
  exact HFIN.out.1.chg hcc HK9.out (by decide)
 ·exact (((((HFIN.out.2.setCell (Nat.le_refl _) _).setCell (Nat.le_refl _) _).setCell (Nat.le_refl _) _).setCell (Nat.le_refl _) _).setCell (Nat.le_refl _) _)
end Go.Proofs.YtcphhbofjkenaaaGreatDoor
namespace Go.Proofs.YtcphhbofjkenaaaGreatDoor
open Go Go.RowKit
set_option linter.unusedVariables false
set_option linter.unusedSimpArgs false
attribute [local go_sem] quietG
structure OutK (B : Nat) (w : World) (xv ov vv : Value) (X O V : List Int) : Prop where
 s : IRow B w xv X
 o : IRow B w ov O
 v : IRow B w vv V
end Go.Proofs.YtcphhbofjkenaaaGreatDoor
namespace Go.Proofs.YtcphhbofjkenaaaGreatDoor
open Go Go.RowKit
set_option linter.unusedVariables false
set_option linter.unusedSimpArgs false
structure JX where
 mb : Nat
 st : Int
 lv : Value
 cv : Value
structure SX where
 wp : Nat
 rv : Value
 vv : Value
 ov : Value
 iv : Value
def JX.rx (j : JX) (s : SX) : RX := ⟨j.mb, s.wp, s.rv, j.st, j.lv, j.cv, s.vv, s.ov, s.iv⟩
def JX.J (j : JX) (b : Nat) : Prop := b = j.mb ∨ j.lv.ownBlock = some b ∨ j.cv.ownBlock = some b
def SX.W (s : SX) (b : Nat) : Prop := b = s.wp ∨ s.vv.ownBlock = some b ∨ s.ov.ownBlock = some b
theorem rx_S (j : JX) (s : SX) (b : Nat) : (j.rx s).S b ↔ j.J b ∨ s.W b := by
 unfold RX.S JX.J SX.W JX.rx
 constructor
 ·rintro (e | e | e | e | e | e)
  ·exact Or.inl (Or.inl e)
  ·exact Or.inr (Or.inl e)
  ·exact Or.inl (Or.inr (Or.inl e))
  ·exact Or.inl (Or.inr (Or.inr e))
  ·exact Or.inr (Or.inr (Or.inl e))
  ·exact Or.inr (Or.inr (Or.inr e))
 ·rintro ((e | e | e) | (e | e | e))
  ·exact Or.inl e
  ·exact Or.inr (Or.inr (Or.inl e))
  ·exact Or.inr (Or.inr (Or.inr (Or.inl e)))
  ·exact Or.inr (Or.inl e)
  ·exact Or.inr (Or.inr (Or.inr (Or.inr (Or.inl e))))
  ·exact Or.inr (Or.inr (Or.inr (Or.inr (Or.inr e))))
structure JAt (B : Nat) (w : World) (j : JX) (wp : Nat) (rv : Value) (code : List Int) (m : MS) : Prop where
 mac : ∃ cs, Blk w j.mb cs 116 ∧ CsAt (j.rx ⟨wp, rv, .slice none 0 0, .slice none 0 0, .slice none 0 0⟩) m cs
 lrow : LRow B w j.lv m.loops
 crow : IRow B w j.cv m.calls
 bm : B ≤ j.mb
 len : m.loops.length ≤ 2000000 ∧ m.calls.length ≤ 2000000 ∧ m.at_ ≤ code.length
structure WAt (B : Nat) (w : World) (s : SX) (code : List Int) (u : MW) : Prop where
 wblk : Blk w s.wp #[s.vv, s.ov, s.iv] 118
 vrow : IRow B w s.vv u.vars
 orow : IRow B w s.ov u.outs
 ins : InsAt B w s.iv u.ins
 cod : CodeAt B w s.rv code
 sepv : ∀ k, s.vv.ownBlock = some k → s.ov.ownBlock ≠ some k
 bw : B ≤ s.wp
 len : u.outs.length ≤ 2000000 ∧ u.ins.length ≤ 20000000000000 ∧ u.vars.length ≤ 1000 ∧ code.length ≤ 1000
section
variable {B : Nat} {w w' : World} {j : JX} {s : SX} {code : List Int} {m m' : MS} {u u' : MW}
theorem csAt_any {x y : RX} {cs : Array Value} (h : CsAt x m cs) (h1 : y.lv = x.lv) (h2 : y.cv = x.cv) (h3 : y.wp = x.wp) (h4 : y.rv = x.rv) (h5 : y.st = x.st) : CsAt y m cs :=
 ⟨h.mc, by rw [h1]; exact h.c33, by rw [h2]; exact h.c34, by rw [h3]; exact h.c35, by rw [h4]; exact h.c36, by rw [h5]; exact h.c37, h.c38⟩
theorem rAt_of (hj : JAt B w j s.wp s.rv code m) (hw : WAt B w s code u) (hs : ∀ b, j.J b → ¬ s.W b) : RAt B w (j.rx s) code m u := by
 obtain ⟨cs, k1, k2⟩ := hj.mac
 obtain ⟨l1, l2, l3⟩ := hj.len
 obtain ⟨o1, o2, o3, o4⟩ := hw.len
 refine ⟨⟨cs, k1, csAt_any k2 rfl rfl rfl rfl rfl⟩, hj.lrow, hj.crow, hw.wblk, hw.vrow, hw.orow, hw.ins, hw.cod, fun k hk => ?_, hw.sepv, hj.bm, hw.bw, l1, l2, o1, o2, o3, o4, l3⟩
 have := hs k (Or.inr (Or.inr hk))
 exact ⟨fun e => this (Or.inr (Or.inl e)), fun e => this (Or.inr (Or.inr e))⟩
theorem RAt.job {x : RX} (h : RAt B w x code m u) : JAt B w ⟨x.mb, x.st, x.lv, x.cv⟩ x.wp x.rv code m := by
 obtain ⟨cs, k1, k2⟩ := h.mac
 obtain ⟨l1, l2, _, _, _, _, l3⟩ := h.len
 exact ⟨⟨cs, k1, csAt_any k2 rfl rfl rfl rfl rfl⟩, h.lrow, h.crow, h.bm, l1, l2, l3⟩
theorem RAt.wld {x : RX} (h : RAt B w x code m u) : WAt B w ⟨x.wp, x.rv, x.vv, x.ov, x.iv⟩ code u := by
 obtain ⟨_, _, o1, o2, o3, o4, _⟩ := h.len
 exact ⟨h.wblk, h.vrow, h.orow, h.ins, h.cod, h.sepv, h.bw, o1, o2, o3, o4⟩
theorem RAt.sepJ {x : RX} (h : RAt B w x code m u) : ∀ b, (JX.mk x.mb x.st x.lv x.cv).J b → ¬ (SX.mk x.wp x.rv x.vv x.ov x.iv).W b := by
 obtain ⟨cs, k1, _⟩ := h.mac
 rintro b (e | e | e) (e' | e' | e')
 ·have e1 : x.mb = x.wp := e.symm.trans e'
  rw [e1] at k1; exact absurd (blk_type k1 h.wblk) (by decide)
 ·subst e; exact own_blk h.vrow k1 (by decide) e'
 ·subst e; exact own_blk h.orow k1 (by decide) e'
 ·subst e'; exact own_blk h.lrow h.wblk (by decide) e
 ·exact own_own h.lrow h.vrow (by decide) e e'
 ·exact own_own h.lrow h.orow (by decide) e e'
 ·subst e'; exact own_blk h.crow h.wblk (by decide) e
 ·exact (h.sepc b e).1 e'
 ·exact (h.sepc b e).2 e'
theorem JAt.chg {wp : Nat} {rv : Value} {S : Nat → Prop} (h : JAt B w j wp rv code m) (hc : Chg S w w') (hn : ∀ b, j.J b → ¬ S b) : JAt B w' j wp rv code m := by
 obtain ⟨cs, k1, k2⟩ := h.mac
 exact ⟨⟨cs, k1.chg hc (hn _ (Or.inl rfl)), k2⟩, ownsRow_chg h.lrow hc (fun b hb => hn b (Or.inr (Or.inl hb))), ownsRow_chg h.crow hc (fun b hb => hn b (Or.inr (Or.inr hb))), h.bm, h.len⟩
theorem JAt.lt {wp : Nat} {rv : Value} (h : JAt B w j wp rv code m) {b : Nat} (hb : j.J b) : b < w.heap.size := by
 obtain ⟨cs, k1, k2⟩ := h.mac
 rcases hb with e | e | e
 ·subst e; exact k1.lt
 ·exact own_lt h.lrow e
 ·exact own_lt h.crow e
theorem JAt.base {wp : Nat} {rv : Value} (h : JAt B w j wp rv code m) {b : Nat} (hb : j.J b) : B ≤ b := by
 rcases hb with e | e | e
 ·subst e; exact h.bm
 ·exact own_base h.lrow e
 ·exact own_base h.crow e
theorem WAt.lt (h : WAt B w s code u) {b : Nat} (hb : s.W b) : b < w.heap.size := by
 rcases hb with e | e | e
 ·subst e; exact h.wblk.lt
 ·exact own_lt h.vrow e
 ·exact own_lt h.orow e
theorem WAt.base (h : WAt B w s code u) {b : Nat} (hb : s.W b) : B ≤ b := by
 rcases hb with e | e | e
 ·subst e; exact h.bw
 ·exact own_base h.vrow e
 ·exact own_base h.orow e
theorem WAt.chg {S : Nat → Prop} (h : WAt B w s code u) (hc : Chg S w w') (hn : ∀ b, s.W b → ¬ S b) (hB : ∀ b, S b → B ≤ b) : WAt B w' s code u := by
 have hb : Below B w w' := hc.toBelow (by have := h.wblk.lt; have := h.bw; omega) (fun b hb e => by have := hB b e; omega)
 exact ⟨h.wblk.chg hc (hn _ (Or.inl rfl)), ownsRow_chg h.vrow hc (fun b hb => hn b (Or.inr (Or.inl hb))), ownsRow_chg h.orow hc (fun b hb => hn b (Or.inr (Or.inr hb))), h.ins.below hb, h.cod.below hb, h.sepv, h.bw, h.len⟩
structure Fam (B : Nat) (w : World) (s : SX) (code : List Int) (u : MW) (js : List (JX × MS)) : Prop where
 wld : WAt B w s code u
 each : ∀ (i : Nat) (a : JX × MS), js[i]? = some a → JAt B w a.1 s.wp s.rv code a.2
 apart : ∀ (i k : Nat) (a b : JX × MS), js[i]? = some a → js[k]? = some b → i ≠ k → ∀ n, a.1.J n → ¬ b.1.J n
 sep : ∀ (i : Nat) (a : JX × MS), js[i]? = some a → ∀ n, a.1.J n → ¬ s.W n
def famS (s : SX) (js : List (JX × MS)) (b : Nat) : Prop := s.W b ∨ ∃ (i : Nat) (a : JX × MS), js[i]? = some a ∧ a.1.J b
theorem Fam.rAt {js : List (JX × MS)} (h : Fam B w s code u js) {i : Nat} {a : JX × MS} (hi : js[i]? = some a) : RAt B w (a.1.rx s) code a.2 u :=
 rAt_of (h.each i a hi) h.wld (h.sep i a hi)
theorem Fam.chg {js : List (JX × MS)} {S : Nat → Prop} (h : Fam B w s code u js) (hc : Chg S w w') (hn : ∀ b, famS s js b → ¬ S b) (hB : ∀ b, S b → B ≤ b) : Fam B w' s code u js :=
 ⟨h.wld.chg hc (fun b hb => hn b (Or.inl hb)) hB, fun i a hi => (h.each i a hi).chg hc (fun b hb => hn b (Or.inr ⟨i, a, hi, hb⟩)), h.apart, h.sep⟩
theorem Fam.base {js : List (JX × MS)} (h : Fam B w s code u js) {b : Nat} (hb : famS s js b) : B ≤ b := by
 rcases hb with e | ⟨i, a, hi, e⟩
 ·exact h.wld.base e
 ·exact (h.each i a hi).base e
theorem Fam.step {js : List (JX × MS)} {y : RX} (h : Fam B w s code u js) {i : Nat} {a : JX × MS} (hi : js[i]? = some a) (hn : RN B w (a.1.rx s) code m' u' w' y) :
  Fam B w' ⟨s.wp, s.rv, s.vv, y.ov, y.iv⟩ code u' (js.set i (⟨a.1.mb, a.1.st, y.lv, y.cv⟩, m')) ∧ (∀ b, famS ⟨s.wp, s.rv, s.vv, y.ov, y.iv⟩ (js.set i (⟨a.1.mb, a.1.st, y.lv, y.cv⟩, m')) b → famS s js b ∨ w.heap.size ≤ b) ∧ Chg (famS s js) w w' := by
 have e1 : y.mb = a.1.mb := hn.mb
 have e2 : y.wp = s.wp := hn.wp
 have e3 : y.rv = s.rv := hn.rv
 have e4 : y.st = a.1.st := hn.st
 have e5 : y.vv = s.vv := hn.vv
 have hR := hn.at_
 have hlt : i < js.length := (List.getElem?_eq_some_iff.1 hi).1
 have hJ : JAt B w' ⟨a.1.mb, a.1.st, y.lv, y.cv⟩ s.wp s.rv code m' := by have := hR.job; rw [e1, e2, e3, e4] at this; exact this
 have hW : WAt B w' ⟨s.wp, s.rv, s.vv, y.ov, y.iv⟩ code u' := by have := hR.wld; rw [e2, e3, e5] at this; exact this
 have hs : ∀ b, (JX.mk a.1.mb a.1.st y.lv y.cv).J b → ¬ (SX.mk s.wp s.rv s.vv y.ov y.iv).W b := by have := hR.sepJ; rw [e1, e2, e3, e4, e5] at this; exact this
 have jn : ∀ b, (JX.mk a.1.mb a.1.st y.lv y.cv).J b → a.1.J b ∨ w.heap.size ≤ b := by
  rintro b (e | e | e)
  ·exact Or.inl (Or.inl e)
  ·exact (hn.lv b e).imp (fun e => Or.inr (Or.inl e)) id
  ·exact (hn.cv b e).imp (fun e => Or.inr (Or.inr e)) id
 have wn : ∀ b, (SX.mk s.wp s.rv s.vv y.ov y.iv).W b → s.W b ∨ w.heap.size ≤ b := by
  rintro b (e | e | e)
  ·exact Or.inl (Or.inl e)
  ·exact Or.inl (Or.inr (Or.inl e))
  ·exact (hn.ov b e).imp (fun e => Or.inr (Or.inr e)) id
 have hget : ∀ (k : Nat) (c : JX × MS), (js.set i (⟨a.1.mb, a.1.st, y.lv, y.cv⟩, m'))[k]? = some c → (k = i ∧ c = (⟨a.1.mb, a.1.st, y.lv, y.cv⟩, m')) ∨ (k ≠ i ∧ js[k]? = some c) := fun k c hk => by
  by_cases hki : k = i
  ·subst hki
   rw [List.getElem?_set_self hlt] at hk
   exact Or.inl ⟨rfl, (Option.some.inj hk).symm⟩
  ·rw [List.getElem?_set_ne (fun e => hki e.symm)] at hk
   exact Or.inr ⟨hki, hk⟩
 have oth : ∀ (k : Nat) (c : JX × MS), k ≠ i → js[k]? = some c → ∀ b, c.1.J b → ¬ (a.1.rx s).S b := fun k c hk hc b hb e => by
  rcases (rx_S a.1 s b).1 e with e | e
  ·exact h.apart k i c a hc hi hk b hb e
  ·exact h.sep k c hc b hb e
 refine ⟨⟨hW, fun k c hk => ?_, fun k l c d hk hl hne b hb hd => ?_, fun k c hk b hb e => ?_⟩, fun b hb => ?_, hn.chg.mono (fun b _ e => ?_)⟩
 ·rcases hget k c hk with ⟨_, rfl⟩ | ⟨hki, hk⟩
  ·exact hJ
  ·exact (h.each k c hk).chg hn.chg (oth k c hki hk)
 ·rcases hget k c hk with ⟨e, rfl⟩ | ⟨hki, hk⟩
  ·rcases hget l d hl with ⟨e', rfl⟩ | ⟨hli, hl⟩
   ·exact hne (e.trans e'.symm)
   ·rcases jn b hb with e2 | e2
    ·exact h.apart i l a d hi hl (fun e => hli e.symm) b e2 hd
    ·have := (h.each l d hl).lt hd; omega
  ·rcases hget l d hl with ⟨e', rfl⟩ | ⟨hli, hl⟩
   ·rcases jn b hd with e2 | e2
    ·exact h.apart k i c a hk hi hki b hb e2
    ·have := (h.each k c hk).lt hb; omega
   ·exact h.apart k l c d hk hl hne b hb hd
 ·rcases hget k c hk with ⟨_, rfl⟩ | ⟨hki, hk⟩
  ·exact hs b hb e
  ·rcases wn b e with e2 | e2
   ·exact h.sep k c hk b hb e2
   ·have := (h.each k c hk).lt hb; omega
 ·rcases hb with e | ⟨k, c, hk, e⟩
  ·exact (wn b e).imp Or.inl id
  ·rcases hget k c hk with ⟨_, rfl⟩ | ⟨hki, hk⟩
   ·exact (jn b e).imp (fun e => Or.inr ⟨i, a, hi, e⟩) id
   ·exact Or.inl (Or.inr ⟨k, c, hk, e⟩)
 ·rcases (rx_S a.1 s b).1 e with e | e
  ·exact Or.inr ⟨i, a, hi, e⟩
  ·exact Or.inl e
end
structure EV where
 kind : Int
 task : Int
 tick : Int
 val : Int
def EV.cells (e : EV) : List Value := [.int .i64 e.kind, .int .i64 e.task, .int .i64 e.tick, .int .i64 e.val]
theorem EV.one (e : EV) : ∀ u ∈ e.cells, u.oneCell' = true := by
 intro u hu
 simp only [EV.cells, List.mem_cons, List.not_mem_nil, or_false] at hu
 rcases hu with rfl | rfl | rfl | rfl <;> rfl
def ev0 : Value := .agg #[.int .i64 0, .int .i64 0, .int .i64 0, .int .i64 0]
theorem Tryz.infoEv : (Tryz.prog.info? 69).map (fun i => (i.zero, i.size, i.bytes)) = some (some ev0, 4, 32) := by kernel_rfl
abbrev ERow (B : Nat) (w : World) (v : Value) (l : List EV) : Prop := w.ownsRow B 69 4 v l.length (l.flatMap EV.cells)
structure JT where
 word : ByteArray
 per : Int
 dl : Int
 off : Int
 st : Nat
def jobC (mb : Nat) (t : JT) (n : Int) (busy : Bool) : Array Value := #[.pointer (some ⟨mb, 0, none⟩), .string t.word, .int .i64 t.per, .int .i64 t.dl, .int .i64 t.off, .int .i64 n, .bool busy]
def dueP (t : JT) (tick : Int) : Bool := decide (t.off ≤ tick) && ((tick - t.off) % t.per == 0)
section
attribute [local go_sem] quietG
set_option maxRecDepth 100000 in
set_option maxHeartbeats 4000000 in
theorem job_due {w : World} {jb mb : Nat} {t : JT} {n : Int} {busy : Bool} (tick : Int) (hb : Blk w jb (jobC mb t n busy) 170) (p1 : 1 ≤ t.per) (p2 : t.per ≤ 1000000) (o1 : 0 ≤ t.off) (o2 : t.off ≤ 1000000) (k1 : 0 ≤ tick) (k2 : tick ≤ 1000000) :
  Calls Tryz.prog 83 #[.pointer (some ⟨jb, 0, none⟩), .int .i64 tick] w fun e w' => e = .returned (.bool (dueP t tick)) ∧ Below w.heap.size w w' := by
 obtain ⟨wd, per, dl, off, st⟩ := t
 simp only at p1 p2 o1 o2
 have c2 : w.cell? ⟨jb, 2, none⟩ = some (.int .i64 per) := hb.cell 2 _ rfl
 have c4 : w.cell? ⟨jb, 4, none⟩ = some (.int .i64 off) := hb.cell 4 _ rfl
 have hlt := hb.lt
 obtain ⟨D, hD⟩ : ∃ D, D = dueP ⟨wd, per, dl, off, st⟩ tick := ⟨_, rfl⟩
 rw [← hD]
 have HD : Hid (D = (decide (off ≤ tick) && ((tick - off) % per == 0))) := hidden hD
 clear hD hb
 by_cases h : off ≤ tick
 ·have hd : decide (off ≤ tick) = true := decide_eq_true h
  have hm : (tick - off).tmod per = (tick - off) % per := Int.tmod_eq_emod_of_nonneg (by omega)
  obtain ⟨q, hq⟩ : ∃ q, q = (tick - off) % per := ⟨_, rfl⟩
  have hm0 : 0 ≤ q := by rw [hq]; exact Int.emod_nonneg _ (by omega)
  have hm1 : q < per := by rw [hq]; exact Int.emod_lt_of_pos _ (by omega)
  rw [← hq] at hm
  have HE : Hid (D = (q == 0)) := hidden (by rw [HD.out, hd, hq]; simp)
  clear hq HD
  go_enter Tryz.func83, Tryz.ntmps83
  go_wp2_with fail
  go_quiet (fail)
  go_wp2_with fail
  go_ret
  exact ⟨by rw [HE.out]; rfl, ⟨rfl, rfl, rfl, Nat.le_refl _, fun _ _ => rfl⟩⟩
 ·have hd : decide (off ≤ tick) = false := decide_eq_false h
  have HE : Hid (D = false) := hidden (by rw [HD.out, hd]; rfl)
  clear HD
  go_enter Tryz.func83, Tryz.ntmps83
  go_wp2_with fail
  go_quiet (fail)
  go_wp2_with fail
  go_ret
  exact ⟨by rw [HE.out]; rfl, ⟨rfl, rfl, rfl, Nat.le_refl _, fun _ _ => rfl⟩⟩
end
set_option maxRecDepth 100000 in
set_option maxHeartbeats 4000000 in
theorem turns_note {B : Nat} {w : World} {tb jb mb : Nat} {wv bn br ev : Value} {es : List EV} {t : JT} {n : Int} {busy : Bool} (kind tick val : Int) (hb : Blk w tb #[wv, bn, br, ev] 139) (hr : ERow B w ev es) (hj : Blk w jb (jobC mb t n busy) 170) (hl : es.length ≤ 90000000) (hB : B ≤ w.heap.size) :
  Calls Tryz.prog 84 #[.pointer (some ⟨tb, 0, none⟩), .int .i64 kind, .pointer (some ⟨jb, 0, none⟩), .int .i64 tick, .int .i64 val] w fun e w' => e = .returned (.tuple #[]) ∧ (∃ ev', Blk w' tb #[wv, bn, br, ev'] 139 ∧ ERow B w' ev' (es ++ [⟨kind, n, tick, val⟩]) ∧ Lc w ev ev') ∧ Chg (fun b => b = tb ∨ ev.ownBlock = some b) w w' := by
 obtain ⟨ad, cap, hev, hcap, _⟩ := row_shape hr
 subst hev
 have c3 : w.cell? ⟨tb, 3, none⟩ = some (.slice ad es.length cap) := hb.cell 3 _ rfl
 have q3 := hb.frozen 3
 have j5 : w.cell? ⟨jb, 5, none⟩ = some (.int .i64 n) := hj.cell 5 _ rfl
 have hlt := hb.lt
 have hjl := hj.lt
 have hne := own_blk hr hb (by decide)
 obtain ⟨i0, hi, hz0, hz1, hz2⟩ := info_parts Tryz.infoEv
 have HN := hidden hne; have HBT := hidden hb; have HRW := hidden hr
 have HA := hidden (fun o => (hr.alloc o).drew)
 have H1 := hidden (EV.one ⟨kind, n, tick, val⟩)
 have HC := hidden (show es.length + 1 ≤ maxLen by unfold maxLen; omega)
 have HDD := hidden (show (es.length + 1) * 32 ≤ 140737488355328 by omega)
 have HE2 := hidden (fun o => show B ≤ (w.alloc o).drew.heap.size by simp; omega)
 have HH := hidden (fun o => show (w.alloc o).drew.heap.size = w.heap.size + 1 by simp)
 have HNW := hidden (show ∀ j u, ([.int .i64 kind, .int .i64 n, .int .i64 tick, .int .i64 val] : List Value)[j]? = some u → (w.alloc (.cells #[.int .i64 kind, .int .i64 n, .int .i64 tick, .int .i64 val] 69 (0, 0))).drew.cell? ((Addr.mk w.heap.size 0 none).add j) = some u from World.news_of_block (fr := (0, 0)) (heap_alloc_new w _))
 have HF := hidden (fun (o : Obj) (w1 : World) (hg : (w.alloc o).drew.grownBy w1 (Value.slice ad es.length cap).ownBlock) => (show w1.frozen? ⟨tb, 3, none⟩ = false ∧ w1.cell? ⟨tb, 3, none⟩ = some (.slice ad es.length cap) from ⟨(hg.frozen_far ⟨tb, 3, none⟩ (by simp; omega) (fun e => HN.out e.symm)).trans ((((Below.refl _ w).alloc (Nat.le_refl _) o).drew.frozen (p := ⟨tb, 3, none⟩) hlt).trans q3), (hg.cell_far ⟨tb, 3, none⟩ (by simp; omega) (fun e => HN.out e.symm)).trans ((((Below.refl _ w).alloc (Nat.le_refl _) o).drew.cell (p := ⟨tb, 3, none⟩) hlt).trans c3)⟩))
 clear hb hr hj hne
 go_enter Tryz.func84, Tryz.ntmps84
 go_region_law (refine step_append_lies _ (by rfl) _ _ _ (by rfl) B 69 i0 ev0 4 32 Tryz.underlying60 hi hz0 hz1 hz2 rfl (by decide) _ es.length (es.flatMap EV.cells) (by rfl) (HA.out _) (Addr.mk w.heap.size 0 none) 1 1 [.int .i64 kind, .int .i64 n, .int .i64 tick, .int .i64 val] (by rfl) (by rfl) HNW.out H1.out (by decide) HC.out HDD.out (HE2.out _) (w.heap.size + 1) (HH.out _) ?_; intro gg cap1 w1 hown1 hgrow hat hlt1; obtain ⟨q4, c4⟩ := HF.out _ _ hgrow)
 all_goals
  go_wp2_with fail
  go_end0
  have hcg : Chg (fun k => (Value.slice ad es.length cap).ownBlock = some k) w w1 := ((Chg.refl _ w).alloc _).drew.trans ((Chg.ofGrown hgrow).mono (fun k _ e => e.symm))
  have hb2 := HBT.out.chg hcg HN.out
  have hne2 : (Value.slice (some ⟨gg, 0, none⟩) (es.length + 1) cap1).ownBlock ≠ some tb := own_blk hown1 hb2 (by decide)
  have hset : Chg (fun b => b = tb) w1 (w1.setCell ⟨tb, 3, none⟩ (.slice (some ⟨gg, 0, none⟩) (es.length + 1) cap1)) := (Chg.refl (fun b => b = tb) w1).setCell (p := ⟨tb, 3, none⟩) rfl _
  refine ⟨rfl, ⟨.slice (some ⟨gg, 0, none⟩) (es.length + 1) cap1, ?_, ?_, ?_⟩, (hcg.mono (fun k _ e => Or.inr e)).trans (hset.mono (fun b _ e => Or.inl e))⟩
  ·have := hb2.set (o := 3) (.slice (some ⟨gg, 0, none⟩) (es.length + 1) cap1); simpa using this
  ·show World.ownsRow _ _ _ _ _ _ _
   rw [List.length_append, List.length_singleton, List.flatMap_append]
   exact ownsRow_chg hown1 hset (fun b hb e => hne2 (by rw [hb, e]))
  ·intro k hk
   simp only [Value.ownBlock, Option.some.injEq] at hk
   subst hk
   exact hat.imp id (fun e => by omega)
end Go.Proofs.YtcphhbofjkenaaaGreatDoor
namespace Go.Proofs.YtcphhbofjkenaaaGreatDoor
open Go Go.RowKit
set_option linter.unusedVariables false
set_option linter.unusedSimpArgs false
structure Fr where
 its : List IT
 i : Nat
 beh : Nat
 n : Int
 e : Int
structure DM where
 fs : List (Value × Fr)
 stk : List Int
 done : Bool
 ed : Int
structure DX where
 mb : Nat
 wp : Nat
 fv : Value
 tv : Value
 cv : Value
 iv : Value
 ov : Value
 full : List Int
 tk : Nat
section
variable {B : Nat} {w w' : World} {sb : Nat} {F : Nat → Prop} {x : DX} {m m' : DM} {u u' : MW}
end
section
variable {B : Nat} {w w' : World} {sb : Nat} {F : Nat → Prop} {x : DX} {m m' : DM} {u u' : MW}
end
attribute [local go_sem] quietG
section
variable {B : Nat} {w w' : World} {sb : Nat} {F : Nat → Prop} {x : DX} {m m' : DM} {u u' : MW}
end
end Go.Proofs.YtcphhbofjkenaaaGreatDoor
namespace Go.Proofs.YtcphhbofjkenaaaGreatDoor
open Go Go.RowKit
set_option linter.unusedVariables false
set_option linter.unusedSimpArgs false
attribute [local go_sem] quietG
section
variable {B : Nat} {w w' : World} {sb : Nat} {F : Nat → Prop} {x : DX} {m m' : DM} {u u' : MW}
end
end Go.Proofs.YtcphhbofjkenaaaGreatDoor
namespace Go.Proofs.YtcphhbofjkenaaaGreatDoor
open Go Go.RowKit
set_option linter.unusedVariables false
set_option linter.unusedSimpArgs false
attribute [local go_sem] quietG
def opP (k : Nat) (n : Int) (s : List Int) (u : MW) : List Int × MW := ((execM k 0 ⟨s, [(n, 0)], [], 0⟩ u).2.1.stk, (execM k 0 ⟨s, [(n, 0)], [], 0⟩ u).2.2)
section
variable {B : Nat} {w w' : World} {sb : Nat} {F : Nat → Prop} {x : DX} {m m' : DM} {u u' : MW}
end
end Go.Proofs.YtcphhbofjkenaaaGreatDoor
