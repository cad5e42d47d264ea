import Derived.Deep.DeepCutAuto
import Derived.StillTailTactics
import Derived.Test.YtcphhbofjkenaaaGreatDoorK33
import Derived.Test.YtcphhbofjkenaaaGreatDoorK36

namespace Go.Proofs.YtcphhbofjkenaaaGreatDoor
open Go Go.RowKit
set_option linter.unusedVariables false
set_option linter.unusedSimpArgs false
attribute [local go_sem] quietG

structure Mk3 (w : World) (n nn : Nat) (iv : Value) (p : Option (Nat × Nat)) (g1 g2 : Option Nat) (w' : World) : Prop where
  bel : Below w.heap.size w w'
  wld : ∀ q vg, p = some (q, vg) → w.heap.size ≤ q ∧ Blk w' q #[.slice (some ⟨vg, 0, none⟩) nn nn, .slice none 0 0, iv] 118 ∧ IRow w.heap.size w' (.slice (some ⟨vg, 0, none⟩) nn nn) (List.replicate nn 0)
  r1 : ∀ g, g1 = some g → w.heap.size ≤ g ∧ w'.rowIs g 168 n (fun _ => .pointer none)
  r2 : ∀ g, g2 = some g → w.heap.size ≤ g ∧ w'.rowIs g 168 n (fun _ => .pointer none)
  ne : ∀ a b, g1 = some a → g2 = some b → a ≠ b

section
variable {w w' w2 : World} {n nn : Nat} {iv : Value} {p : Option (Nat × Nat)} {g1 g2 : Option Nat}
theorem Mk3.nil (w : World) (n nn : Nat) (iv : Value) : Mk3 w n nn iv none none none w.drew := ⟨(Below.refl _ w).drew, fun _ _ h => (by cases h), fun _ h => (by cases h), fun _ h => (by cases h), fun _ _ h => (by cases h)⟩
theorem Mk3.more (h : Mk3 w n nn iv p g1 g2 w') (hb : Below w'.heap.size w' w2) : Mk3 w n nn iv p g1 g2 w2 :=
  ⟨h.bel.trans (hb.mono h.bel.size), fun q vg e => by
    obtain ⟨a, b, c⟩ := h.wld q vg e
    exact ⟨a, b.sub hb b.lt, ownsRow_chg c (Chg.ofBelow (S := fun _ => False) hb) (fun _ _ => id)⟩, fun g e => by
    obtain ⟨a, b⟩ := h.r1 g e
    exact ⟨a, b.of_block (hb.block g b.lt)⟩, fun g e => by
    obtain ⟨a, b⟩ := h.r2 g e
    exact ⟨a, b.of_block (hb.block g b.lt)⟩, h.ne⟩
theorem Mk3.world {q vg : Nat} (h : Mk3 w n nn iv none g1 g2 w') (hq : w'.heap.size ≤ q) (hb : Blk w2 q #[.slice (some ⟨vg, 0, none⟩) nn nn, .slice none 0 0, iv] 118) (hr : IRow w'.heap.size w2 (.slice (some ⟨vg, 0, none⟩) nn nn) (List.replicate nn 0)) (hw : Below w'.heap.size w' w2) : Mk3 w n nn iv (some (q, vg)) g1 g2 w2 :=
  ⟨(h.more hw).bel, fun q' vg' e => by
    injection e with e
    injection e with e1 e2
    subst e1 e2
    exact ⟨Nat.le_trans h.bel.size hq, hb, irow_base hr h.bel.size⟩, (h.more hw).r1, (h.more hw).r2, h.ne⟩
theorem Mk3.row1 (h : Mk3 w n nn iv p none g2 w') : Mk3 w n nn iv p (some w'.heap.size) g2 (w'.alloc (.cells (madeCells #[.pointer none] n) 168)) := by
  have hm := h.more (w2 := w'.alloc (.cells (madeCells #[.pointer none] n) 168)) ((Below.refl _ w').alloc (Nat.le_refl _) _)
  exact ⟨hm.bel, hm.wld, fun g e => by
    injection e with e
    subst e
    exact ⟨h.bel.size, World.rowIs_made w' _ n _⟩, hm.r2, fun a b e1 e2 e => by
    injection e1 with e1
    have := (h.r2 b e2).2.lt
    omega⟩
theorem Mk3.row2 (h : Mk3 w n nn iv p g1 none w') : Mk3 w n nn iv p g1 (some w'.heap.size) (w'.alloc (.cells (madeCells #[.pointer none] n) 168)) := by
  have hm := h.more (w2 := w'.alloc (.cells (madeCells #[.pointer none] n) 168)) ((Below.refl _ w').alloc (Nat.le_refl _) _)
  exact ⟨hm.bel, hm.wld, hm.r1, fun g e => by
    injection e with e
    subst e
    exact ⟨h.bel.size, World.rowIs_made w' _ n _⟩, fun a b e1 e2 e => by
    injection e2 with e2
    have := (h.r1 a e1).2.lt
    omega⟩
end

theorem dOp_make {P : Program} {ops : Array Oper} {K : {w : World // True} → Act → Prop} {k : Nat} {s : {w : World // True}} {a : Act} {o : Oper} (hk : ops[k]? = some o) (hw : Region.wanted o (yielded ops a.tmps) = true) (n : Nat)
    (hr : (execOp a.eval o).run P s.val = .ok (.value (.slice (some ⟨s.val.heap.size, 0, none⟩) n n)) (s.val.alloc (.cells (madeCells #[.pointer none] n) 168)))
    (h : ∀ g W, g = s.val.heap.size → W = s.val.alloc (.cells (madeCells #[.pointer none] n) 168) → K ⟨W, trivial⟩ (a.put o.dst (.slice (some ⟨g, 0, none⟩) n n))) : dOp P ops (OneOf fun _ => True) k s K a :=
  dOp_turn1 hk hw _ _ trivial (Or.inl hr) (h _ _ rfl rfl)
theorem Tryz.infoJp : (Tryz.prog.info? 168).map (fun i => (i.zero, i.size, i.bytes)) = some (some (.pointer none), 1, 8) := by kernel_rfl
def tsOf (es : List PE) (l : List TK) : List JT := l.map fun t => ⟨t.word, t.per, t.dl, t.off, ((startOf (lastP es t.word es.length)).getD 0).toNat⟩
def newPlan : Tr := .quiet 0 (.quiet 2 (.quiet 4 (.quiet 5 (.quiet 7 (.quiet 8
  (.three 1 (.three 3 (.two 6 (.one 9 .fin) 9 (.one 6 .fin)) 6 (.two 3 (.one 9 .fin) 9 (.one 3 .fin)) 9 (.two 3 (.one 6 .fin) 6 (.one 3 .fin)))
    6 (.two 1 (.two 3 (.one 9 .fin) 9 (.one 3 .fin)) 9 (.one 1 (.one 3 .fin)))
    9 (.two 1 (.two 3 (.one 6 .fin) 6 (.one 3 .fin)) 6 (.one 1 (.one 3 .fin)))))))))

def NewPost (B : Nat) (es : List PE) (code : List Int) (nn : Nat) (l : List TK) (ls : List (Int × Int)) (ins : List Int) (w : World) (e : Ending) (w' : World) : Prop :=
  ∃ (tb gn gr : Nat) (s : SX) (jbs : List Nat) (js : List (JX × MS)), e = .returned (.pointer (some ⟨tb, 0, none⟩)) ∧ TAt B w' tb gn gr s code ⟨List.replicate nn 0, [], ins⟩ (.slice none 0 0) jbs (tsOf es l) (rksP ls) js (List.replicate l.length false) [] ∧ jbs.length = l.length ∧ js.map Prod.snd = (tsOf es l).map (fun t => beginM t.st) ∧ Below w.heap.size w w'

set_option maxRecDepth 100000 in
set_option maxHeartbeats 16000000 in
theorem rates_newTurns {w : World} {bb : Nat} {ev cv : Value} {es : List PE} {nv nt : Int} {code : List Int} {l : List TK} {ls : List (Int × Int)} {ta pa : Option Addr} {n tc pc : Nat} {iv : Value} {ins : List Int} {tg pg : Nat} (h : PSys w bb ev cv es nv nt code) (hi : LInv es nv nt code) (hcl : 0 < code.length)
    (hn : n = l.length) (h8 : n ≤ 8) (hta : ta = some ⟨tg, 0, none⟩) (htg : tg < w.heap.size) (htc : n ≤ tc) (ht : ∀ (j : Nat) (u : Value), (l.flatMap TK.cells)[j]? = some u → w.cell? ⟨tg, j, none⟩ = some u)
    (hpa : pa = some ⟨pg, 0, none⟩) (hpg : pg < w.heap.size) (hpc : n ≤ pc) (hp : ∀ k, k < n → w.cell? ⟨pg, k * 3 + 1, none⟩ = some (.int .i64 (rankP ls k : Int))) (hls : ls.length = n)
    (hst : ∀ t ∈ l, ∃ p : Nat, startOf (lastP es t.word es.length) = some (p : Int) ∧ p < code.length) (hj : InsAt w.heap.size w iv ins) (hil : ins.length ≤ 17592186043904) :
    Calls Tryz.prog 57 #[.pointer (some ⟨bb, 0, none⟩), .slice ta n tc, .slice pa n pc, iv] w (NewPost w.heap.size es code nv.toNat l ls ins w) := by
  have hv16 := hi.v1
  have hv0 := hi.v0
  obtain ⟨nn, rfl⟩ : ∃ nn : Nat, nv = nn := ⟨nv.toNat, by omega⟩
  simp only [Int.toNat_natCast] at *
  have hV := fun w' (hb : Below w.heap.size w w') => book_Variables (h.below (w' := w') hb)
  have hN := fun w' => mach_newWorld (w := w') (iv := iv) nn (by omega) (insAt_len hj |>.elim fun a h => h.elim fun c h => ⟨_, _, _, h⟩)
  have hmk := make_rows (P := Tryz.prog) 137 168 (.pointer none) #[.pointer none] 1 8 rfl Tryz.underlying137 Tryz.infoJp n (by omega) (by omega)
  rw [Nat.mul_one] at hmk
  have HV := hidden hV; have HN := hidden hN; have HMK := hidden hmk
  obtain ⟨ia, ic, hivv⟩ := insAt_len hj
  have HIV := hidden hivv
  subst hta hpa
  have HH := hidden h; have HI := hidden hi; have HTT := hidden ht; have HPP := hidden hp; have HST := hidden hst; have HJ := hidden hj; have HNN := hidden hn; have HLS := hidden hls
  clear hV hN hmk h hi ht hp hst hj hn hls
  generalize ins.length = il at hivv
  subst hivv
  go_enter Tryz.func57, Tryz.ntmps57
  go_upto_region 1 with fail
  go_cut [9] (fun s9 wx => ∃ tb wp vg gn gr : Nat, s9 = .pointer (some ⟨tb, 0, none⟩) ∧ Hid (w.heap.size ≤ tb ∧ Mk3 w n nn (.slice ia il ic) (some (wp, vg)) (some gn) (some gr) wx ∧ Blk wx tb #[.pointer (some ⟨wp, 0, none⟩), .slice (some ⟨gn, 0, none⟩) n n, .slice (some ⟨gr, 0, none⟩) n n, .slice none 0 0] 139))
  case first =>
    refine wp_region_plan (C := OneOf fun _ => True) 10 newPlan ⟨w.drew, trivial⟩ (by kernel_rfl) (by kernel_rfl) rfl ?_
    unfold newPlan
    iterate 6 (refine wpB_step rfl (fun K hK => ?_); go_simp; refine hK _ ?_; clear hK K)
    have HM := hidden (Mk3.nil w n nn (.slice ia il ic))
    have FIN : Hid (∀ (wp vg gn gr : Nat) (W : World), Hid (Mk3 w n nn (.slice ia il ic) (some (wp, vg)) (some gn) (some gr) W) → Hid (w.heap.size ≤ W.heap.size ∧ Mk3 w n nn (.slice ia il ic) (some (wp, vg)) (some gn) (some gr) (W.alloc (.cells #[.pointer (some ⟨wp, 0, none⟩), .slice (some ⟨gn, 0, none⟩) n n, .slice (some ⟨gr, 0, none⟩) n n, .slice none 0 0] 139 (0, 0))) ∧ Blk (W.alloc (.cells #[.pointer (some ⟨wp, 0, none⟩), .slice (some ⟨gn, 0, none⟩) n n, .slice (some ⟨gr, 0, none⟩) n n, .slice none 0 0] 139 (0, 0))) W.heap.size #[.pointer (some ⟨wp, 0, none⟩), .slice (some ⟨gn, 0, none⟩) n n, .slice (some ⟨gr, 0, none⟩) n n, .slice none 0 0] 139)) := hidden fun wp vg gn gr W h => hidden ⟨h.out.bel.size, h.out.more ((Below.refl _ W).alloc (Nat.le_refl _) _), blk_new W _ _⟩
    refine wpB_three ?_ ?_ ?_
    · refine dOp_call1 rfl rfl 46 #[.pointer (some ⟨bb, 0, none⟩)] (by go_simp) ((HV.out _ HM.out.bel).mono ?_)
      rintro e w' ⟨rfl, rfl⟩
      refine ⟨_, rfl, trivial, ?_⟩
      refine wpB_three ?_ ?_ ?_
      · refine dOp_call1 rfl rfl 45 #[.int .i64 nn, .slice ia il ic] (by go_simp) ((HN.out _).mono ?_)
        rintro e w' ⟨wp, vg, rfl, q1, q2, q3, q4, q5⟩
        replace HM := hidden (HM.out.world q1 q3 q4 q5)
        clear q1 q2 q3 q4 q5
        refine ⟨_, rfl, trivial, ?_⟩
        refine wpB_two ?_ ?_
        · refine dOp_make rfl rfl n (by have hmk := HMK.out; go_simp) (fun gn w' hg hw' => ?_)
          replace HM := hidden (HM.out.row1)
          rw [← hg, ← hw'] at HM
          clear hg hw'
          refine wpB_one ?_
          · refine dOp_make rfl rfl n (by have hmk := HMK.out; go_simp) (fun gr w' hg hw' => ?_)
            replace HM := hidden (HM.out.row2)
            rw [← hg, ← hw'] at HM
            clear hg hw'
            refine wpB_fin ?_
            intro w'' hw''
            rw [show w'' = _ from hw'']
            simp only [List.drop_succ_cons, List.drop_zero]
            go_wp2_with fail
            go_meet
            exact ⟨_, wp, vg, gn, gr, rfl, FIN.out _ _ _ _ _ HM⟩
        · refine dOp_make rfl rfl n (by have hmk := HMK.out; go_simp) (fun gr w' hg hw' => ?_)
          replace HM := hidden (HM.out.row2)
          rw [← hg, ← hw'] at HM
          clear hg hw'
          refine wpB_one ?_
          · refine dOp_make rfl rfl n (by have hmk := HMK.out; go_simp) (fun gn w' hg hw' => ?_)
            replace HM := hidden (HM.out.row1)
            rw [← hg, ← hw'] at HM
            clear hg hw'
            refine wpB_fin ?_
            intro w'' hw''
            rw [show w'' = _ from hw'']
            simp only [List.drop_succ_cons, List.drop_zero]
            go_wp2_with fail
            go_meet
            exact ⟨_, wp, vg, gn, gr, rfl, FIN.out _ _ _ _ _ HM⟩
      · refine dOp_make rfl rfl n (by have hmk := HMK.out; go_simp) (fun gn w' hg hw' => ?_)
        replace HM := hidden (HM.out.row1)
        rw [← hg, ← hw'] at HM
        clear hg hw'
        refine wpB_two ?_ ?_
        · refine dOp_call1 rfl rfl 45 #[.int .i64 nn, .slice ia il ic] (by go_simp) ((HN.out _).mono ?_)
          rintro e w' ⟨wp, vg, rfl, q1, q2, q3, q4, q5⟩
          replace HM := hidden (HM.out.world q1 q3 q4 q5)
          clear q1 q2 q3 q4 q5
          refine ⟨_, rfl, trivial, ?_⟩
          refine wpB_one ?_
          · refine dOp_make rfl rfl n (by have hmk := HMK.out; go_simp) (fun gr w' hg hw' => ?_)
            replace HM := hidden (HM.out.row2)
            rw [← hg, ← hw'] at HM
            clear hg hw'
            refine wpB_fin ?_
            intro w'' hw''
            rw [show w'' = _ from hw'']
            simp only [List.drop_succ_cons, List.drop_zero]
            go_wp2_with fail
            go_meet
            exact ⟨_, wp, vg, gn, gr, rfl, FIN.out _ _ _ _ _ HM⟩
        · refine dOp_make rfl rfl n (by have hmk := HMK.out; go_simp) (fun gr w' hg hw' => ?_)
          replace HM := hidden (HM.out.row2)
          rw [← hg, ← hw'] at HM
          clear hg hw'
          refine wpB_one ?_
          · refine dOp_call1 rfl rfl 45 #[.int .i64 nn, .slice ia il ic] (by go_simp) ((HN.out _).mono ?_)
            rintro e w' ⟨wp, vg, rfl, q1, q2, q3, q4, q5⟩
            replace HM := hidden (HM.out.world q1 q3 q4 q5)
            clear q1 q2 q3 q4 q5
            refine ⟨_, rfl, trivial, ?_⟩
            refine wpB_fin ?_
            intro w'' hw''
            rw [show w'' = _ from hw'']
            simp only [List.drop_succ_cons, List.drop_zero]
            go_wp2_with fail
            go_meet
            exact ⟨_, wp, vg, gn, gr, rfl, FIN.out _ _ _ _ _ HM⟩
      · refine dOp_make rfl rfl n (by have hmk := HMK.out; go_simp) (fun gr w' hg hw' => ?_)
        replace HM := hidden (HM.out.row2)
        rw [← hg, ← hw'] at HM
        clear hg hw'
        refine wpB_two ?_ ?_
        · refine dOp_call1 rfl rfl 45 #[.int .i64 nn, .slice ia il ic] (by go_simp) ((HN.out _).mono ?_)
          rintro e w' ⟨wp, vg, rfl, q1, q2, q3, q4, q5⟩
          replace HM := hidden (HM.out.world q1 q3 q4 q5)
          clear q1 q2 q3 q4 q5
          refine ⟨_, rfl, trivial, ?_⟩
          refine wpB_one ?_
          · refine dOp_make rfl rfl n (by have hmk := HMK.out; go_simp) (fun gn w' hg hw' => ?_)
            replace HM := hidden (HM.out.row1)
            rw [← hg, ← hw'] at HM
            clear hg hw'
            refine wpB_fin ?_
            intro w'' hw''
            rw [show w'' = _ from hw'']
            simp only [List.drop_succ_cons, List.drop_zero]
            go_wp2_with fail
            go_meet
            exact ⟨_, wp, vg, gn, gr, rfl, FIN.out _ _ _ _ _ HM⟩
        · refine dOp_make rfl rfl n (by have hmk := HMK.out; go_simp) (fun gn w' hg hw' => ?_)
          replace HM := hidden (HM.out.row1)
          rw [← hg, ← hw'] at HM
          clear hg hw'
          refine wpB_one ?_
          · refine dOp_call1 rfl rfl 45 #[.int .i64 nn, .slice ia il ic] (by go_simp) ((HN.out _).mono ?_)
            rintro e w' ⟨wp, vg, rfl, q1, q2, q3, q4, q5⟩
            replace HM := hidden (HM.out.world q1 q3 q4 q5)
            clear q1 q2 q3 q4 q5
            refine ⟨_, rfl, trivial, ?_⟩
            refine wpB_fin ?_
            intro w'' hw''
            rw [show w'' = _ from hw'']
            simp only [List.drop_succ_cons, List.drop_zero]
            go_wp2_with fail
            go_meet
            exact ⟨_, wp, vg, gn, gr, rfl, FIN.out _ _ _ _ _ HM⟩
    · refine dOp_make rfl rfl n (by have hmk := HMK.out; go_simp) (fun gn w' hg hw' => ?_)
      replace HM := hidden (HM.out.row1)
      rw [← hg, ← hw'] at HM
      clear hg hw'
      refine wpB_two ?_ ?_
      · refine dOp_call1 rfl rfl 46 #[.pointer (some ⟨bb, 0, none⟩)] (by go_simp) ((HV.out _ HM.out.bel).mono ?_)
        rintro e w' ⟨rfl, rfl⟩
        refine ⟨_, rfl, trivial, ?_⟩
        refine wpB_two ?_ ?_
        · refine dOp_call1 rfl rfl 45 #[.int .i64 nn, .slice ia il ic] (by go_simp) ((HN.out _).mono ?_)
          rintro e w' ⟨wp, vg, rfl, q1, q2, q3, q4, q5⟩
          replace HM := hidden (HM.out.world q1 q3 q4 q5)
          clear q1 q2 q3 q4 q5
          refine ⟨_, rfl, trivial, ?_⟩
          refine wpB_one ?_
          · refine dOp_make rfl rfl n (by have hmk := HMK.out; go_simp) (fun gr w' hg hw' => ?_)
            replace HM := hidden (HM.out.row2)
            rw [← hg, ← hw'] at HM
            clear hg hw'
            refine wpB_fin ?_
            intro w'' hw''
            rw [show w'' = _ from hw'']
            simp only [List.drop_succ_cons, List.drop_zero]
            go_wp2_with fail
            go_meet
            exact ⟨_, wp, vg, gn, gr, rfl, FIN.out _ _ _ _ _ HM⟩
        · refine dOp_make rfl rfl n (by have hmk := HMK.out; go_simp) (fun gr w' hg hw' => ?_)
          replace HM := hidden (HM.out.row2)
          rw [← hg, ← hw'] at HM
          clear hg hw'
          refine wpB_one ?_
          · refine dOp_call1 rfl rfl 45 #[.int .i64 nn, .slice ia il ic] (by go_simp) ((HN.out _).mono ?_)
            rintro e w' ⟨wp, vg, rfl, q1, q2, q3, q4, q5⟩
            replace HM := hidden (HM.out.world q1 q3 q4 q5)
            clear q1 q2 q3 q4 q5
            refine ⟨_, rfl, trivial, ?_⟩
            refine wpB_fin ?_
            intro w'' hw''
            rw [show w'' = _ from hw'']
            simp only [List.drop_succ_cons, List.drop_zero]
            go_wp2_with fail
            go_meet
            exact ⟨_, wp, vg, gn, gr, rfl, FIN.out _ _ _ _ _ HM⟩
      · refine dOp_make rfl rfl n (by have hmk := HMK.out; go_simp) (fun gr w' hg hw' => ?_)
        replace HM := hidden (HM.out.row2)
        rw [← hg, ← hw'] at HM
        clear hg hw'
        refine wpB_one ?_
        · refine dOp_call1 rfl rfl 46 #[.pointer (some ⟨bb, 0, none⟩)] (by go_simp) ((HV.out _ HM.out.bel).mono ?_)
          rintro e w' ⟨rfl, rfl⟩
          refine ⟨_, rfl, trivial, ?_⟩
          refine wpB_one ?_
          · refine dOp_call1 rfl rfl 45 #[.int .i64 nn, .slice ia il ic] (by go_simp) ((HN.out _).mono ?_)
            rintro e w' ⟨wp, vg, rfl, q1, q2, q3, q4, q5⟩
            replace HM := hidden (HM.out.world q1 q3 q4 q5)
            clear q1 q2 q3 q4 q5
            refine ⟨_, rfl, trivial, ?_⟩
            refine wpB_fin ?_
            intro w'' hw''
            rw [show w'' = _ from hw'']
            simp only [List.drop_succ_cons, List.drop_zero]
            go_wp2_with fail
            go_meet
            exact ⟨_, wp, vg, gn, gr, rfl, FIN.out _ _ _ _ _ HM⟩
    · refine dOp_make rfl rfl n (by have hmk := HMK.out; go_simp) (fun gr w' hg hw' => ?_)
      replace HM := hidden (HM.out.row2)
      rw [← hg, ← hw'] at HM
      clear hg hw'
      refine wpB_two ?_ ?_
      · refine dOp_call1 rfl rfl 46 #[.pointer (some ⟨bb, 0, none⟩)] (by go_simp) ((HV.out _ HM.out.bel).mono ?_)
        rintro e w' ⟨rfl, rfl⟩
        refine ⟨_, rfl, trivial, ?_⟩
        refine wpB_two ?_ ?_
        · refine dOp_call1 rfl rfl 45 #[.int .i64 nn, .slice ia il ic] (by go_simp) ((HN.out _).mono ?_)
          rintro e w' ⟨wp, vg, rfl, q1, q2, q3, q4, q5⟩
          replace HM := hidden (HM.out.world q1 q3 q4 q5)
          clear q1 q2 q3 q4 q5
          refine ⟨_, rfl, trivial, ?_⟩
          refine wpB_one ?_
          · refine dOp_make rfl rfl n (by have hmk := HMK.out; go_simp) (fun gn w' hg hw' => ?_)
            replace HM := hidden (HM.out.row1)
            rw [← hg, ← hw'] at HM
            clear hg hw'
            refine wpB_fin ?_
            intro w'' hw''
            rw [show w'' = _ from hw'']
            simp only [List.drop_succ_cons, List.drop_zero]
            go_wp2_with fail
            go_meet
            exact ⟨_, wp, vg, gn, gr, rfl, FIN.out _ _ _ _ _ HM⟩
        · refine dOp_make rfl rfl n (by have hmk := HMK.out; go_simp) (fun gn w' hg hw' => ?_)
          replace HM := hidden (HM.out.row1)
          rw [← hg, ← hw'] at HM
          clear hg hw'
          refine wpB_one ?_
          · refine dOp_call1 rfl rfl 45 #[.int .i64 nn, .slice ia il ic] (by go_simp) ((HN.out _).mono ?_)
            rintro e w' ⟨wp, vg, rfl, q1, q2, q3, q4, q5⟩
            replace HM := hidden (HM.out.world q1 q3 q4 q5)
            clear q1 q2 q3 q4 q5
            refine ⟨_, rfl, trivial, ?_⟩
            refine wpB_fin ?_
            intro w'' hw''
            rw [show w'' = _ from hw'']
            simp only [List.drop_succ_cons, List.drop_zero]
            go_wp2_with fail
            go_meet
            exact ⟨_, wp, vg, gn, gr, rfl, FIN.out _ _ _ _ _ HM⟩
      · refine dOp_make rfl rfl n (by have hmk := HMK.out; go_simp) (fun gn w' hg hw' => ?_)
        replace HM := hidden (HM.out.row1)
        rw [← hg, ← hw'] at HM
        clear hg hw'
        refine wpB_one ?_
        · refine dOp_call1 rfl rfl 46 #[.pointer (some ⟨bb, 0, none⟩)] (by go_simp) ((HV.out _ HM.out.bel).mono ?_)
          rintro e w' ⟨rfl, rfl⟩
          refine ⟨_, rfl, trivial, ?_⟩
          refine wpB_one ?_
          · refine dOp_call1 rfl rfl 45 #[.int .i64 nn, .slice ia il ic] (by go_simp) ((HN.out _).mono ?_)
            rintro e w' ⟨wp, vg, rfl, q1, q2, q3, q4, q5⟩
            replace HM := hidden (HM.out.world q1 q3 q4 q5)
            clear q1 q2 q3 q4 q5
            refine ⟨_, rfl, trivial, ?_⟩
            refine wpB_fin ?_
            intro w'' hw''
            rw [show w'' = _ from hw'']
            simp only [List.drop_succ_cons, List.drop_zero]
            go_wp2_with fail
            go_meet
            exact ⟨_, wp, vg, gn, gr, rfl, FIN.out _ _ _ _ _ HM⟩
  case rest =>
    obtain ⟨tb, wp, vg, gn, gr, rfl, HC⟩ := hcut
    obtain ⟨u, hu⟩ : ∃ u : MW, u = ⟨List.replicate nn 0, [], ins⟩ := ⟨_, rfl⟩
    obtain ⟨sx, hsx⟩ : ∃ sx : SX, sx = ⟨wp, cv, .slice (some ⟨vg, 0, none⟩) nn nn, .slice none 0 0, .slice ia il ic⟩ := ⟨_, rfl⟩
    have hca := codeAt_of HH.out hcl
    have hc8 := HI.out.c
    have ht4 := HI.out.t1
    have hTB0 : TB w.heap.size wc tb gn gr n sx code u [] (tsOf es l) (rankP ls) [] := by
      obtain ⟨c1, c2, c3⟩ := HC.out
      obtain ⟨d1, d2, d3⟩ := c2.wld wp vg rfl
      obtain ⟨e1, e2⟩ := c2.r1 gn rfl
      obtain ⟨f1, f2⟩ := c2.r2 gr rfl
      subst hsx hu
      refine ⟨⟨⟨d2, d3, row0 _ _ _ _, HJ.out.below c2.bel, hca.below c2.bel, (fun k hk h => by simp [Value.ownBlock] at h), d1, by simp, (show ins.length ≤ 20000000000000 by omega), (by simp; omega), by omega⟩, (fun i a h => by simp at h), (fun i k a b h => by simp at h), (fun i a h => by simp at h)⟩, c3, ⟨_, e2, fun i jb h => by simp at h⟩, ⟨_, f2, fun i jb h => by simp at h⟩, (fun i jb h => by simp at h), (fun i k jb h => by simp at h), c1, ⟨e1, f1⟩, c2.ne gn gr rfl rfl, rfl, rfl⟩
    have HTB0 := hidden hTB0
    have HB0 := hidden HC.out.2.1.bel
    have HSX := hidden hsx; have HU := hidden hu; have HCA := hidden hca
    clear hTB0 hsx hu hca HC HV HN HMK
    go_wp2_with fail
    go_loopw [29] (fun k wr => ∃ (q : Nat) (jbs : List Nat) (js : List (JX × MS)), q ≤ n ∧ k = .int .i64 q ∧ jbs.length = q ∧ Hid (TB w.heap.size wr tb gn gr n sx code u jbs (tsOf es l) (rankP ls) js) ∧ Hid (Below w.heap.size w wr)) (fun k _ => n - (intOf k).toNat)
    case atStart => exact ⟨0, [], [], Nat.zero_le _, rfl, rfl, HTB0, HB0⟩
    case round =>
      clear HTB0 HB0
      obtain ⟨q, jbs, js, hq, rfl, hjl, HQ, HBQ⟩ := hrel
      by_cases hlt : q < n
      · have hqi : (q : Int) < (n : Int) := by omega
        have hkl : q < l.length := by rw [← HNN.out]; exact hlt
        obtain ⟨t, ht⟩ : ∃ t, t = l[q] := ⟨_, rfl⟩
        have htl : t ∈ l := by rw [ht]; exact List.getElem_mem hkl
        have hcell : ∀ j u, t.cells[j]? = some u → wr.cell? ⟨tg, q * 4 + j, none⟩ = some u := fun j u hj => by
          rw [HBQ.out.cell (p := ⟨tg, q * 4 + j, none⟩) htg]
          refine HTT.out _ _ ?_
          have hj4 : j < 4 := by have := (List.getElem?_eq_some_iff.1 hj).1; simpa [TK.cells] using this
          rw [flat_get TK.cells 4 (fun _ => rfl) l q j hkl hj4, ← ht]; exact hj
        have q0 : wr.cell? ⟨tg, q * 4, none⟩ = some (.string t.word) := hcell 0 _ rfl
        have q1 : wr.cell? ⟨tg, q * 4 + 1, none⟩ = some (.int .i64 t.per) := hcell 1 _ rfl
        have q2 : wr.cell? ⟨tg, q * 4 + 2, none⟩ = some (.int .i64 t.dl) := hcell 2 _ rfl
        have q3 : wr.cell? ⟨tg, q * 4 + 3, none⟩ = some (.int .i64 t.off) := hcell 3 _ rfl
        have htgr : tg < wr.heap.size := Nat.lt_of_lt_of_le htg HBQ.out.size
        obtain ⟨X, hX⟩ : ∃ X : World, X = wr.alloc (.cells #[.string t.word, .int .i64 t.per, .int .i64 t.dl, .int .i64 t.off] 67 (0, 0)) := ⟨_, rfl⟩
        obtain ⟨kb, hkb⟩ : ∃ kb, kb = wr.heap.size := ⟨_, rfl⟩
        have hbX : Below wr.heap.size wr X := by rw [hX]; exact (Below.refl _ _).alloc (Nat.le_refl _) _
        have hkX : Blk X kb #[.string t.word, .int .i64 t.per, .int .i64 t.dl, .int .i64 t.off] 67 := by rw [hX, hkb]; exact blk_new wr _ _
        have HTX := hidden (HQ.out.below hbX)
        have HBX := hidden (HBQ.out.trans (hbX.mono HBQ.out.size))
        obtain ⟨p, hp1, hp2⟩ := HST.out t htl
        have hS := book_Start t.word (HH.out.below HBX.out) (by have := HI.out.l; omega)
        have hre : startRes (lastP es t.word es.length) = .tuple #[.int .i64 p, .int .i64 0] := by
          cases hL : lastP es t.word es.length with
          | none => rw [hL] at hp1; cases hp1
          | some e =>
            rw [hL] at hp1
            unfold startOf at hp1
            by_cases hv : e.var = true
            · simp [hv] at hp1
            · simp [hv] at hp1; simp [startRes, hv, hp1]
        rw [hre] at hS
        have z0 : X.cell? ⟨kb, 0, none⟩ = some (.string t.word) := hkX.cell 0 _ rfl
        have hkl2 := hkX.lt
        have HS := hidden hS; have HKX := hidden hkX; have HX := hidden hX; have HKB := hidden hkb; have HT := hidden ht; have HP1 := hidden hp1
        clear hcell hX hkb hbX hkX hS hre ht htl hp1 HQ HBQ
        go_upto_region 5 with fail
        rw [← HX.out, ← HKB.out]
        clear q0 q1 q2 q3 htgr
        go_wp2_with fail
        refine HS.out.mono ?_
        rintro e w2 ⟨rfl, hb2⟩
        have HT2 := hidden (HTX.out.below hb2)
        have HB2 := hidden (HBX.out.trans (hb2.mono HBX.out.size))
        have hk2 := HKX.out.sub hb2 HKX.out.lt
        have HK2 := hidden hk2
        have hsz2 : kb < w2.heap.size := hk2.lt
        have htb2 : tb < w2.heap.size := HT2.out.blk.lt
        have hwp : sx.wp = wp := by rw [HSX.out]
        have b0 : w2.cell? ⟨tb, 0, none⟩ = some (.pointer (some ⟨wp, 0, none⟩)) := by rw [← hwp]; exact HT2.out.blk.cell 0 _ rfl
        have k0 : ∀ u : {w' : World // Below w2.heap.size w2 w'}, u.val.cell? ⟨tb, 0, none⟩ = some (.pointer (some ⟨wp, 0, none⟩)) := fun u => (u.property.cell (p := ⟨tb, 0, none⟩) htb2).trans b0
        have k1 : ∀ u : {w' : World // Below w2.heap.size w2 w'}, u.val.cell? ⟨kb, 0, none⟩ = some (.string t.word) := fun u => (u.property.cell (p := ⟨kb, 0, none⟩) hsz2).trans (hk2.cell 0 _ rfl)
        have k2 : ∀ u : {w' : World // Below w2.heap.size w2 w'}, u.val.cell? ⟨kb, 1, none⟩ = some (.int .i64 t.per) := fun u => (u.property.cell (p := ⟨kb, 1, none⟩) hsz2).trans (hk2.cell 1 _ rfl)
        have k3 : ∀ u : {w' : World // Below w2.heap.size w2 w'}, u.val.cell? ⟨kb, 2, none⟩ = some (.int .i64 t.dl) := fun u => (u.property.cell (p := ⟨kb, 2, none⟩) hsz2).trans (hk2.cell 2 _ rfl)
        have k4 : ∀ u : {w' : World // Below w2.heap.size w2 w'}, u.val.cell? ⟨kb, 3, none⟩ = some (.int .i64 t.off) := fun u => (u.property.cell (p := ⟨kb, 3, none⟩) hsz2).trans (hk2.cell 3 _ rfl)
        have hne : Nonempty {w' : World // Below w2.heap.size w2 w'} := ⟨⟨w2, Below.refl _ _⟩⟩
        have HCD := hidden (fun w' (hb : Below w.heap.size w w') => book_Code (HH.out.below (w' := w') hb))
        have hcsh : ∃ g m c, cv = .slice (some ⟨g, 0, none⟩) m c := by obtain ⟨g, c, h, _⟩ := HCA.out; exact ⟨_, _, _, h⟩
        obtain ⟨rg, rn, rc, hcv⟩ := hcsh
        have HNEW : Hid (∀ w', Below w2.heap.size w2 w' → Calls Tryz.prog 47 #[cv, .int .i64 p, .slice none 0 0, .pointer (some ⟨wp, 0, none⟩)] w' fun e w3 => ∃ mb, e = .returned (.pointer (some ⟨mb, 0, none⟩)) ∧ w'.heap.size ≤ mb ∧ RAt w.heap.size w3 ((JX.mk mb p (.slice none 0 0) (.slice none 0 0)).rx sx) code (beginM p) u ∧ Below w'.heap.size w' w3) := hidden fun w' hb => by
          have hW := (HT2.out.below hb).fam.wld
          rw [HSX.out, HU.out] at hW ⊢
          exact mach_new (B := w.heap.size) (st := p) [] hW.cod (by omega) (by omega) (Nat.zero_le _) (insAt_none _ _) (Nat.le_trans HB2.out.size hb.size) hW.wblk hW.bw hW.vrow hW.ins (by simp; omega) (show ins.length ≤ 20000000000000 by omega)
        subst hcv
        clear hb2 hk2 HTX HBX HS HKX z0 hkl2 HX HKB b0
        go_upto_region 6 with fail
        refine wp_region_order (C := OneOf fun w' => Below w2.heap.size w2 w') 10 [0, 2, 3, 4, 5, 6, 8, 9, 1, 7] [1, 7] ⟨w2.drew, (Below.refl _ w2).drew⟩ (by kernel_rfl) (by kernel_rfl) rfl ?_
        iterate 8 (refine wpT_step rfl rfl (fun K hK => ?_); go_simp; refine hK _ ?_; clear hK K)
        refine wpT_call1 rfl rfl 48 #[.pointer (some ⟨bb, 0, none⟩)] (by go_simp) ((HCD.out _ (HB2.out.trans ((Below.refl _ w2).drew.mono HB2.out.size))).mono ?_)
        rintro e w' ⟨rfl, rfl⟩
        refine ⟨_, rfl, (Below.refl _ w2).drew, ?_⟩
        refine wpT_call1 rfl rfl 47 #[.slice (some ⟨rg, 0, none⟩) rn rc, .int .i64 p, .slice none 0 0, .pointer (some ⟨wp, 0, none⟩)] (by go_simp) ((HNEW.out _ (Below.refl _ w2).drew).mono ?_)
        rintro e w3 ⟨mb, rfl, hmb, hra, hb3⟩
        have hb23 : Below w2.heap.size w2 w3 := (Below.refl _ w2).drew.trans hb3
        refine ⟨_, rfl, hb23, wpT_end ?_⟩
        intro w' hw'
        rw [show w' = w3 from hw']
        clear hw' w'
        simp only [List.drop_succ_cons, List.drop_zero]
        go_upto_region 7 with fail
        obtain ⟨Y, hY⟩ : ∃ Y : World, Y = w3.alloc (.cells #[.pointer (some ⟨mb, 0, none⟩), .string t.word, .int .i64 t.per, .int .i64 t.dl, .int .i64 t.off, .int .i64 q, .bool false] 170 (0, 0)) := ⟨_, rfl⟩
        obtain ⟨jb, hjb⟩ : ∃ jb, jb = w3.heap.size := ⟨_, rfl⟩
        rw [← hY, ← hjb]
        have hb3Y : Below w3.heap.size w3 Y := by rw [hY]; exact (Below.refl _ _).alloc (Nat.le_refl _) _
        have hb2Y : Below w2.heap.size w2 Y := hb23.trans (hb3Y.mono hb23.size)
        have hkY : Blk Y jb (jobC mb ⟨t.word, t.per, t.dl, t.off, p⟩ q false) 170 := by rw [hY, hjb]; exact blk_new w3 _ _
        have hTY := HT2.out.below hb2Y
        have hf3 := HT2.out.fam.add (a := (⟨mb, p, .slice none 0 0, .slice none 0 0⟩, beginM p)) hb23 hra (fun b hb => by
          rcases hb with e | e | e
          · rw [e]; exact hmb
          · simp [Value.ownBlock] at e
          · simp [Value.ownBlock] at e)
        have hfY := hf3.chg (S := fun _ => False) (Chg.ofBelow hb3Y) (fun _ _ => id) (fun _ e => e.elim)
        have htsq : (tsOf es l)[jbs.length]? = some ⟨t.word, t.per, t.dl, t.off, p⟩ := by
          unfold tsOf
          rw [hjl, List.getElem?_map, List.getElem?_eq_getElem hkl, ← HT.out]
          simp only [Option.map_some, HP1.out, Option.getD_some, Int.toNat_natCast]
        have hadd := HT2.out.add hb2Y hfY htsq (by rw [hjl]; exact hkY) (by rw [hjb]; exact hb23.size) ⟨rfl, by show p ≤ code.length; omega⟩ rfl (fun i hi e => by
          have := rank_inj (ls := ls) (by rw [HLS.out]; omega) (by rw [HLS.out]; omega) e
          omega)
        rw [hjl] at hadd
        obtain ⟨r, hr⟩ : ∃ r, r = rankP ls q := ⟨_, rfl⟩
        have hrn : r < n := by rw [hr, ← HLS.out]; exact rank_lt (by rw [HLS.out]; exact hlt)
        rw [← hr] at hadd
        obtain ⟨f, f1, f2⟩ := hTY.nrow
        obtain ⟨g, g1, g2⟩ := hTY.rrow
        have c1 : Y.cell? ⟨tb, 1, none⟩ = some (.slice (some ⟨gn, 0, none⟩) n n) := hTY.blk.cell 1 _ rfl
        have m1 : Y.cell? ⟨gn, q, none⟩ = some (f q) := f1.cell hlt
        have m2 := f1.frozen q
        have hgl := f1.lt
        have hrl := g1.lt
        have htbY := hTY.blk.lt
        have hpgY : Y.cell? ⟨pg, q * 3 + 1, none⟩ = some (.int .i64 r) := by
          have hb := HB2.out.trans (hb2Y.mono HB2.out.size)
          rw [hb.cell (p := ⟨pg, q * 3 + 1, none⟩) hpg, hr]
          exact HPP.out q hlt
        have hgnB := hTY.bg.1
        have hgrB := hTY.bg.2
        have hgne := hTY.gne
        have htn : tb ≠ gn := fun e => by
          have := (ty_blk hTY.blk).uniq (by rw [e]; exact ty_row f1)
          exact absurd this (by decide)
        obtain ⟨Z, hZ⟩ : ∃ Z : World, Z = Y.setCell ⟨gn, q, none⟩ (.pointer (some ⟨jb, 0, none⟩)) := ⟨_, rfl⟩
        have c2 : Z.cell? ⟨tb, 2, none⟩ = some (.slice (some ⟨gr, 0, none⟩) n n) := by
          have hc : Chg (fun b => b = gn) Y Z := by rw [hZ]; exact (Chg.refl (fun b => b = gn) Y).setCell (p := ⟨gn, q, none⟩) rfl _
          exact (hTY.blk.chg hc htn).cell 2 _ rfl
        have hg1 : Z.rowIs gr 168 n g := by rw [hZ]; exact g1.setOther (fun e => hgne e.symm) _
        have d1 : Z.cell? ⟨gr, r, none⟩ = some (g r) := hg1.cell hrn
        have d2 := hg1.frozen r
        have p1 : Z.cell? ⟨pg, q * 3 + 1, none⟩ = some (.int .i64 r) := by
          have hc : Chg (fun b => b = gn) Y Z := by rw [hZ]; exact (Chg.refl (fun b => b = gn) Y).setCell (p := ⟨gn, q, none⟩) rfl _
          rw [hc.cell (p := ⟨pg, q * 3 + 1, none⟩) (show pg < Y.heap.size by have := hb2Y.size; have := HB2.out.size; omega) (fun e => by have : pg = gn := e; omega)]
          exact hpgY
        have HADD := hidden hadd; have HZ := hidden hZ; have HBY := hidden (HB2.out.trans (hb2Y.mono HB2.out.size))
        have hrl2 := hg1.lt
        have htbZ : tb < Z.heap.size := by rw [hZ]; simpa using htbY
        have hpgZ : pg < Z.heap.size := by have := hb2Y.size; have := HB2.out.size; rw [hZ]; simp; omega
        clear hadd hZ hY hjb hb3Y hb2Y hkY hTY hf3 hfY htsq f2 g1 g2 f1 hg1 hra hb3 hb23 HT2 HB2 HNEW HCD k0 k1 k2 k3 k4 hne HK2 hr
        generalize f q = v1 at m1
        generalize g r = v2 at d1
        go_upto_region 8 with fail
        rw [← HZ.out]
        go_still_tail 11, (by kernel_rfl)
        go_wp2_with fail
        go_roundw
        case rel => exact ⟨q + 1, jbs ++ [jb], _, by omega, by go_num, by rw [List.length_append, List.length_singleton, hjl], hidden (by rw [HZ.out]; exact HADD.out.below (Below.refl _ _).drew), hidden (HBY.out.trans (by
          rw [HZ.out]
          exact ((((Chg.refl (fun b => b = gn ∨ b = gr) Y).setCell (p := ⟨gn, q, none⟩) (Or.inl rfl) _).setCell (p := ⟨gr, r, none⟩) (Or.inr rfl) _).drew).toBelow HBY.out.size (fun b hb e => by rcases e with e | e <;> omega)))⟩
        case measure => simp [intOf]; omega
      · obtain rfl : q = n := by omega
        have hji : ¬ (q : Int) < (q : Int) := by omega
        go_wp2_with fail
        refine bodyPost_ret (v := .pointer (some ⟨tb, 0, none⟩)) (by simp [results, Tryz.results57, go_sem]) rfl ?_
        have hfin := HQ.out.all (ls := ls) hjl HLS.out h8 (by unfold tsOf; rw [List.length_map]; exact HNN.out.symm)
        rw [HU.out, HNN.out] at hfin
        exact (show NewPost _ _ _ _ _ _ _ _ _ _ from ⟨tb, gn, gr, sx, jbs, js, rfl, hfin.1, by rw [hjl]; exact HNN.out, hfin.2, HBQ.out⟩)

end Go.Proofs.YtcphhbofjkenaaaGreatDoor
