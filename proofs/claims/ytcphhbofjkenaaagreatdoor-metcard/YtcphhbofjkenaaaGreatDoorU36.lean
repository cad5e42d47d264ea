import Derived.Laws.MakeOwn
import Derived.Laws.OwnMore
import Derived.Lib.SliceRun
import Derived.Test.YtcphhbofjkenaaaGreatDoorU35
namespace Go.Proofs.YtcphhbofjkenaaaGreatDoor
set_option maxRecDepth 100000
set_option maxHeartbeats 16000000
open Go Go.RowKit
set_option linter.unusedVariables false
set_option linter.unusedSimpArgs false
attribute [local go_sem] quietG
theorem make_rows {P : Program} (t e : TypeId) (z : Value) (zc : Array Value) (size bytes : Nat) (hzc : z.cells = zc) (ht : P.underlying t = some (.slice e)) (hinfo : (P.info? e).map (fun i => (i.zero, i.size, i.bytes)) = some (some z, size, bytes)) (n : Nat) (hbytes : bytes * n ≤ 281474976710656) (h63 : n ≤ 9223372036854775807) (w : World) :
  (Instr.makeSlice t (.int .i64 (n : Int)) (.int .i64 (n : Int))).run P w = .ok (.slice (some ⟨w.heap.size, 0, none⟩) n n) (w.alloc (.cells (madeCells zc (n * size)) e)) := by
 subst hzc
 obtain ⟨i, hi, hz, hs, hb⟩ := info_parts hinfo
 have := run_make (P := P) w t e i z ht hi hz .i64 .i64 n n (by omega) (Int.le_refl _) (by rw [hb, ← Int.natCast_mul]; omega) (by omega)
 rw [hs] at this
 simpa using this
theorem scan_at {ws : List RW} {l : List TK} {k : Nat} (h : k < l.length) : scanW ws (l.drop k) k = if wrongT ws l[k] ≠ 0 then some (wrongT ws l[k], k) else scanW ws (l.drop (k + 1)) (k + 1) := by
 rw [List.drop_eq_getElem_cons h, scanW]
theorem lateP_at (ls : List (Int × Int)) (l : List TK) (n k : Nat) : lateP ls l (n + 1) k = if respAt ls l k = 0 then some k else lateP ls l n (k + 1) := rfl
def AdmPost (w : World) (ws : List RW) (l : List TK) (e : Ending) (w' : World) : Prop :=
 (∃ pa pn pc, e = .returned (.tuple #[.slice pa pn pc, .int .i64 (admitT ws l).1, .int .i64 (admitT ws l).2]) ∧ ((admitT ws l).1 ≠ 0 → pa = none ∧ pn = 0 ∧ pc = 0) ∧
  ((admitT ws l).1 = 0 → pn = l.length ∧ 0 < pn ∧ pn ≤ 8 ∧ w'.ownsRow w.heap.size 133 3 (.slice pa pn pc) pn (plansTo (loadsT ws l) l pn))) ∧ Below w.heap.size w w'
theorem AdmPost.err {w w' : World} {ws : List RW} {l : List TK} {e : Ending} {E : Int} {K : Nat} (h : admitT ws l = (E, K)) (h0 : E ≠ 0) (he : e = .returned (.tuple #[.slice none 0 0, .int .i64 E, .int .i64 K])) (hb : Below w.heap.size w w') : AdmPost w ws l e w' := by
 refine ⟨⟨none, 0, 0, ?_, fun _ => ⟨rfl, rfl, rfl⟩, fun e => ?_⟩, hb⟩
 ·rw [h]; exact he
 ·rw [h] at e; exact absurd e h0
theorem plz_info : (Tryz.prog.info? 133).map (fun i => (i.zero, i.size, i.bytes)) = some (some (.agg #[.int .i64 0, .int .i64 0, .int .i64 0]), 3, 24) := by kernel_rfl
theorem set2_pre {ys xs : List Value} {k n : Nat} {a b : Value} (hk : k < n) (hl : ys.length = n * 2) (h : ∀ j, j < k * 2 → ys[j]? = xs[j]?) (ha : xs[k * 2]? = some a) (hb : xs[k * 2 + 1]? = some b) :
  ∀ j, j < (k + 1) * 2 → ((ys.set (k * 2) a).set (k * 2 + 1) b)[j]? = xs[j]? := by
 intro j hj
 by_cases e1 : j = k * 2 + 1
 ·subst e1; rw [List.getElem?_set_self (by simp; omega), hb]
 ·rw [List.getElem?_set_ne (by omega)]
  by_cases e0 : j = k * 2
  ·subst e0; rw [List.getElem?_set_self (by omega), ha]
  ·rw [List.getElem?_set_ne (by omega)]; exact h j (by omega)
theorem set3_pre {ys xs : List Value} {k n : Nat} {a b c : Value} (hk : k < n) (hl : ys.length = n * 3) (h : ∀ j, j < k * 3 → ys[j]? = xs[j]?) (ha : xs[k * 3]? = some a) (hb : xs[k * 3 + 1]? = some b) (hc : xs[k * 3 + 2]? = some c) :
  ∀ j, j < (k + 1) * 3 → (((ys.set (k * 3) a).set (k * 3 + 1) b).set (k * 3 + 2) c)[j]? = xs[j]? := by
 intro j hj
 by_cases e2 : j = k * 3 + 2
 ·subst e2; rw [List.getElem?_set_self (by simp; omega), hc]
 ·rw [List.getElem?_set_ne (by omega)]
  by_cases e1 : j = k * 3 + 1
  ·subst e1; rw [List.getElem?_set_self (by simp; omega), hb]
  ·rw [List.getElem?_set_ne (by omega)]
   by_cases e0 : j = k * 3
   ·subst e0; rw [List.getElem?_set_self (by omega), ha]
   ·rw [List.getElem?_set_ne (by omega)]; exact h j (by omega)
theorem eq_of_pre {ys xs : List Value} {n : Nat} (h1 : ys.length = n) (h2 : xs.length = n) (h : ∀ j, j < n → ys[j]? = xs[j]?) : ys = xs := by
 apply List.ext_getElem?
 intro j
 by_cases hj : j < n
 ·exact h j hj
 ·rw [List.getElem?_eq_none (by omega), List.getElem?_eq_none (by omega)]
theorem plans_get (ls : List (Int × Int)) (l : List TK) : ∀ n k m, k < n → m < 3 → (plansTo ls l n)[k * 3 + m]? = (planAt ls l k)[m]?
 | n + 1, k, m, hk, hm => by
  rw [plansTo]
  by_cases e : k < n
  ·rw [List.getElem?_append_left (by rw [plansTo_len]; omega)]; exact plans_get ls l n k m e hm
  ·obtain rfl : k = n := by omega
   rw [List.getElem?_append_right (by rw [plansTo_len]; omega), plansTo_len]
   congr 1; omega
theorem row_free' {w : World} {base : Nat} {e : TypeId} {size g n cap : Nat} {xs : List Value} (h : w.ownsRow base e size (.slice (some ⟨g, 0, none⟩) n cap) n xs) (k : Nat) : w.frozen? ⟨g, k, none⟩ = false := by
 rcases h.2 with ⟨h0, _⟩ | ⟨g', cap', cur, hv, _, hh, _⟩
 ·cases h0
 ·obtain ⟨rfl, rfl⟩ : g = g' ∧ cap = cap' := by simpa using hv
  simp [World.frozen?, hh]
theorem rates_admit {w : World} {bb : Nat} {ev cv : Value} {es : List PE} {nv nt : Int} {code : List Int} {ws : List RW} (l : List TK) (ta : Option Addr) (n cap : Nat) (h : PSys w bb ev cv es nv nt code) (hl : es.length ≤ 1000) (hA : Alike es ws) (hn : n = l.length) (hnc : n ≤ cap) (hnb : n ≤ 1100000)
  (hc : (n = 0) ∨ ∃ tg, ta = some ⟨tg, 0, none⟩ ∧ tg < w.heap.size ∧ ∀ (j : Nat) (u : Value), (l.flatMap TK.cells)[j]? = some u → w.cell? ⟨tg, j, none⟩ = some u) :
  Calls Tryz.prog 28 #[.pointer (some ⟨bb, 0, none⟩), .slice ta n cap] w (AdmPost w ws l) := by
 have hbb := h.blk.lt
 by_cases h0 : n = 0
 ·have hadm : admitT ws l = (1, 0) := by unfold admitT; rw [if_pos (Or.inl (by omega))]
  have HAD := hidden hadm
  have hz : ((n : Int) == 0) = true := by simp; omega
  clear h hA hc hadm hn
  subst h0
  go_enter Tryz.func28, Tryz.ntmps28
  go_wp2_with fail
  exact bodyPost_ret (v := .tuple #[.slice none 0 0, .int .i64 1, .int .i64 0]) (by simp [results, Tryz.results28, go_sem]) rfl (AdmPost.err HAD.out (by decide) rfl (Below.refl _ _))
 ·have hz : ((n : Int) == 0) = false := by simp; omega
  by_cases h8 : 8 < n
  ·have hadm : admitT ws l = (1, 0) := by unfold admitT; rw [if_pos (Or.inr (by omega))]
   have HAD := hidden hadm
   have h8i : (8 : Int) < (n : Int) := by omega
   clear h hA hc hadm hn
   go_enter Tryz.func28, Tryz.ntmps28
   go_wp2_with fail
   exact bodyPost_ret (v := .tuple #[.slice none 0 0, .int .i64 1, .int .i64 0]) (by simp [results, Tryz.results28, go_sem]) rfl (AdmPost.err HAD.out (by decide) rfl (Below.refl _ _))
  ·have h8i : ¬ (8 : Int) < (n : Int) := by omega
   obtain ⟨tg, rfl, htg, hc⟩ : ∃ tg, ta = some ⟨tg, 0, none⟩ ∧ tg < w.heap.size ∧ ∀ (j : Nat) (u : Value), (l.flatMap TK.cells)[j]? = some u → w.cell? ⟨tg, j, none⟩ = some u := hc.resolve_left h0
   have hadm : admitT ws l = match scanW ws l 0 with
     | some (e, k) => (e, k)
     | none => match lateP (loadsT ws l) l l.length 0 with
      | some k => (11, k)
      | none => (0, 0) := by unfold admitT; rw [if_neg (by omega)]; rfl
   have HAD := hidden hadm; have HNL := hidden hn; have HAL := hidden hA
   have HTC := hidden (fun (w' : World) (hb : Below w.heap.size w w') (k : Nat) (hk : k < l.length) => (show w'.cell? ⟨tg, k * 4, none⟩ = some (.string l[k].word) ∧ w'.cell? ⟨tg, k * 4 + 1, none⟩ = some (.int .i64 l[k].per) ∧ w'.cell? ⟨tg, k * 4 + 2, none⟩ = some (.int .i64 l[k].dl) ∧ w'.cell? ⟨tg, k * 4 + 3, none⟩ = some (.int .i64 l[k].off) from by
    have q : ∀ m u, m < 4 → (l[k].cells)[m]? = some u → w'.cell? ⟨tg, k * 4 + m, none⟩ = some u := fun m u hm hu => by
     rw [hb.cell (p := ⟨tg, k * 4 + m, none⟩) htg]
     refine hc _ _ ?_
     rw [flat_get TK.cells 4 (fun _ => rfl) l k m hk hm]; exact hu
    exact ⟨by have := q 0 _ (by omega) rfl; simpa using this, q 1 _ (by omega) rfl, q 2 _ (by omega) rfl, q 3 _ (by omega) rfl⟩))
   have HPR := hidden (fun (t : TK) (w' : World) (hb : Below w.heap.size w w') => rates_price t (h.below hb) hl hA)
   have hm1 := make_rows (P := Tryz.prog) 125 128 ldz #[.int .i64 0, .int .i64 0] 2 16 rfl Tryz.underlying125 Tryz.infoLd n (by omega) (by omega)
   obtain ⟨lg, hlg⟩ : ∃ lg, lg = w.heap.size := ⟨_, rfl⟩
   obtain ⟨W, hW⟩ : ∃ W : World, W = w.alloc (.cells (madeCells #[.int .i64 0, .int .i64 0] (n * 2)) 128 (0, 0)) := ⟨_, rfl⟩
   have hbW : Below w.heap.size w W := by rw [hW]; exact (Below.refl _ _).alloc (Nat.le_refl _) _
   have hrW : W.ownsRow w.heap.size 128 2 (.slice (some ⟨lg, 0, none⟩) n n) n (madeCells #[.int .i64 0, .int .i64 0] (n * 2)).toList := by
    rw [hW, hlg]; exact World.ownsRow_lit w _ n (Nat.le_refl _) (by unfold maxLen; omega) (size_madeCells _ _)
   have HW := hidden hW; have HLG := hidden hlg; have HBW := hidden hbW; have HRW := hidden hrW
   clear h hA hc hadm hn hW hlg hbW hrW
   go_enter Tryz.func28, Tryz.ntmps28
   go_upto_region 4 with fail
   rw [← HW.out, ← HLG.out]
   clear hm1
   go_wp2_with fail
   go_loopw [32] (fun i wr => ∃ (k : Nat) (ys : List Value), k ≤ n ∧ i = .int .i64 k ∧ Hid (wr.ownsRow w.heap.size 128 2 (.slice (some ⟨lg, 0, none⟩) n n) n ys ∧ ∀ j, j < k * 2 → ys[j]? = ((loadsT ws l).flatMap ldC)[j]?) ∧ Hid (scanW ws l 0 = scanW ws (l.drop k) k) ∧ Hid (Below w.heap.size w wr)) (fun i _ => n - (intOf i).toNat)
   case atStart => exact ⟨0, _, Nat.zero_le _, rfl, hidden ⟨HRW.out, fun j hj => by omega⟩, hidden rfl, HBW⟩
   case round =>
    clear HRW HBW HW
    obtain ⟨k, ys, hk, rfl, HY, HS, HB⟩ := hrel
    by_cases hlt : k < n
    ·have hli : (k : Int) < (n : Int) := by omega
     have hl0 : (0 : Int) ≤ (k : Int) := by omega
     have hkl : k < l.length := by rw [← HNL.out]; exact hlt
     obtain ⟨t, ht⟩ : ∃ t, t = l[k] := ⟨_, rfl⟩
     have q := HTC.out wr HB.out k hkl
     rw [← ht] at q
     obtain ⟨q0, q1, q2, q3⟩ := q
     obtain ⟨X, hX⟩ : ∃ X : World, X = wr.alloc (.cells #[.string t.word, .int .i64 t.per, .int .i64 t.dl, .int .i64 t.off] 67 (0, 0)) := ⟨_, rfl⟩
     obtain ⟨tb, htb⟩ : ∃ tb, tb = wr.heap.size := ⟨_, rfl⟩
     have hbX : Below w.heap.size w X := by rw [hX]; exact HB.out.alloc HB.out.size _
     have hkX : Blk X tb #[.string t.word, .int .i64 t.per, .int .i64 t.dl, .int .i64 t.off] 67 := by rw [hX, htb]; exact blk_new wr _ _
     have hrX : X.ownsRow w.heap.size 128 2 (.slice (some ⟨lg, 0, none⟩) n n) n ys := by rw [hX]; exact HY.out.1.alloc _
     have x0 : X.cell? ⟨tb, 0, none⟩ = some (.string t.word) := hkX.cell 0 _ rfl
     have x1 : X.cell? ⟨tb, 1, none⟩ = some (.int .i64 t.per) := hkX.cell 1 _ rfl
     have x2 : X.cell? ⟨tb, 2, none⟩ = some (.int .i64 t.dl) := hkX.cell 2 _ rfl
     have x3 : X.cell? ⟨tb, 3, none⟩ = some (.int .i64 t.off) := hkX.cell 3 _ rfl
     have hscan := scan_at (ws := ws) hkl
     rw [← ht, ← HS.out] at hscan
     have hlk : ((loadsT ws l).flatMap ldC)[k * 2]? = some (.int .i64 (findI ws t.word).1.steps) ∧ ((loadsT ws l).flatMap ldC)[k * 2 + 1]? = some (.int .i64 t.per) := by
      have hkL : k < (loadsT ws l).length := by simpa [loadsT] using hkl
      have e : (loadsT ws l)[k] = ((findI ws t.word).1.steps, t.per) := by simp [loadsT, ht]
      have a0 := flat_get ldC 2 (fun _ => rfl) (loadsT ws l) k 0 hkL (by omega)
      have a1 := flat_get ldC 2 (fun _ => rfl) (loadsT ws l) k 1 hkL (by omega)
      rw [e] at a0 a1
      exact ⟨by simpa [ldC] using a0, by simpa [ldC] using a1⟩
     have HPT := hidden (HPR.out t X hbX)
     obtain ⟨E, hE⟩ : ∃ E, E = wrongT ws t := ⟨_, rfl⟩
     obtain ⟨P, hP⟩ : ∃ P, P = priceT ws t := ⟨_, rfl⟩
     rw [← hE, ← hP] at HPT
     rw [← hE] at hscan
     have hPE : E = 0 → P = (findI ws t.word).1.steps := fun e => by rw [hP, priceT, if_pos (by rw [← hE]; exact e)]
     have HX := hidden hX; have HTB := hidden htb; have HBX := hidden hbX; have HKX := hidden hkX; have HRX := hidden hrX; have HSC := hidden hscan; have HLK := hidden hlk; have HPE := hidden hPE; have HY2 := hidden HY.out.2
     unfold TK.val at HPT
     clear hX htb hbX hkX hrX hscan hlk hPE ht hE hP HY HS
     go_upto_region 7 with fail
     rw [← HX.out, ← HTB.out]
     clear q0 q1 q2 q3
     go_wp2_with fail
     refine HPT.out.mono ?_
     rintro e w2 ⟨rfl, hb2⟩
     have hk2 := HKX.out.sub hb2 HKX.out.lt
     have z1 : w2.cell? ⟨tb, 1, none⟩ = some (.int .i64 t.per) := hk2.cell 1 _ rfl
     have hr2 := ownsRow_chg HRX.out (Chg.ofBelow (S := fun _ => False) hb2) (fun _ _ => id)
     have HB2 := hidden (HBX.out.trans (hb2.mono HBX.out.size)); have HR2 := hidden hr2
     have htb2 := hk2.lt
     clear hb2 hk2 hr2 HPT x0 x1 x2 x3
     by_cases hE0 : E = 0
     ·have hEn : (E != 0) = false := by simp [hE0]
      obtain ⟨lg', cap', hv, _, hlgt, _, _, hcc⟩ := row_cells HR2.out (by omega)
      obtain ⟨rfl, rfl⟩ : lg = lg' ∧ n = cap' := by simpa using hv
      have hyl : ys.length = n * 2 := HR2.out.1
      obtain ⟨y0, hy0⟩ : ∃ x, ys[k * 2]? = some x := ⟨_, List.getElem?_eq_getElem (by omega)⟩
      obtain ⟨y1, hy1⟩ : ∃ x, ys[k * 2 + 1]? = some x := ⟨_, List.getElem?_eq_getElem (by omega)⟩
      have e0 : w2.cell? ⟨lg, k * 2, none⟩ = some y0 := hcc _ _ hy0
      have e1 : w2.cell? ⟨lg, k * 2 + 1, none⟩ = some y1 := hcc _ _ hy1
      have f0 := row_free' HR2.out (k * 2); have f1 := row_free' HR2.out (k * 2 + 1)
      have HYL := hidden hyl
      clear hv hcc hy0 hy1 hyl
      go_wp2_with fail
      go_roundw
      case rel =>
       have hlk := HLK.out
       rw [← HPE.out hE0] at hlk
       refine ⟨k + 1, (ys.set (k * 2) (.int .i64 P)).set (k * 2 + 1) (.int .i64 t.per), by omega, by go_num, hidden ⟨ownsRow_set (ownsRow_set HR2.out (k * 2) _) (k * 2 + 1) _, set2_pre hlt HYL.out HY2.out hlk.1 hlk.2⟩, hidden ?_, hidden ((HB2.out.setCell (by show w.heap.size ≤ lg; have := HLG.out; omega) _).setCell (by show w.heap.size ≤ lg; have := HLG.out; omega) _)⟩
       rw [HSC.out, if_neg (by simp [hE0])]
      case measure => simp [intOf]; omega
     ·have hEn : (E != 0) = true := by simp [hE0]
      have hfin : Hid (admitT ws l = (E, k)) := by
       show admitT ws l = _
       rw [HAD.out, HSC.out, if_pos hE0]
      clear HSC HAD
      go_wp2_with fail
      exact bodyPost_ret (v := .tuple #[.slice none 0 0, .int .i64 E, .int .i64 k]) (by simp [results, Tryz.results28, go_sem]) rfl (AdmPost.err hfin.out hE0 rfl HB2.out)
    ·obtain rfl : k = n := by omega
     have hli : ¬ (k : Int) < (k : Int) := by omega
     have hsn : scanW ws l 0 = none := by rw [HS.out, List.drop_eq_nil_of_le (by have := HNL.out; omega)]; rfl
     have hys : ys = (loadsT ws l).flatMap ldC := eq_of_pre HY.out.1.1 (by rw [flat_length ldC 2 (fun _ => rfl)]; simp [loadsT]; have := HNL.out; omega) HY.out.2
     have hrow : wr.ownsRow w.heap.size 128 2 (.slice (some ⟨lg, 0, none⟩) k k) k ((loadsT ws l).flatMap ldC) := by rw [← hys]; exact HY.out.1
     have hwr := scanW_none hsn
     obtain ⟨ls, hls⟩ : ∃ ls, ls = loadsT ws l := ⟨_, rfl⟩
     have hok : ∀ x ∈ ls, LdOk x := by rw [hls]; exact loads_ok HAL.out hwr
     have hlsl : ls.length = k := by rw [hls]; simp [loadsT]; exact HNL.out.symm
     have hfit : ∀ t ∈ l, 1 ≤ t.dl ∧ t.dl ≤ 1000000 := fun t ht => by
      have := hwr t ht
      unfold wrongT at this
      split at this
      ·contradiction
      ·split at this
       ·exact absurd this (by decide)
       ·rename_i h1
        have h1 : t.Fits := Classical.byContradiction h1
        obtain ⟨_, _, a, b, _⟩ := h1; omega
     have hadm2 := HAD.out
     rw [hsn] at hadm2
     simp only at hadm2
     rw [← hls] at hadm2 hrow
     have HAD2 := hidden hadm2; have HLR := hidden hrow; have HOK := hidden hok; have HLL := hidden hlsl; have HFT := hidden hfit; have HLS := hidden hls
     clear hsn hys hrow hwr hok hlsl hfit hadm2 hls HY HS HAD HPR
     have hm2 := make_rows (P := Tryz.prog) 57 133 (.agg #[.int .i64 0, .int .i64 0, .int .i64 0]) #[.int .i64 0, .int .i64 0, .int .i64 0] 3 24 rfl Tryz.underlying57 plz_info k (by omega) (by omega)
     obtain ⟨pg, hpg⟩ : ∃ pg, pg = wr.heap.size := ⟨_, rfl⟩
     obtain ⟨V, hV⟩ : ∃ V : World, V = wr.alloc (.cells (madeCells #[.int .i64 0, .int .i64 0, .int .i64 0] (k * 3)) 133 (0, 0)) := ⟨_, rfl⟩
     have hbV : Below w.heap.size w V := by rw [hV]; exact HB.out.alloc HB.out.size _
     have hrV : V.ownsRow w.heap.size 133 3 (.slice (some ⟨pg, 0, none⟩) k k) k (madeCells #[.int .i64 0, .int .i64 0, .int .i64 0] (k * 3)).toList := by
      rw [hV, hpg]; exact World.ownsRow_lit wr _ k HB.out.size (by unfold maxLen; omega) (size_madeCells _ _)
     have hlV : V.ownsRow w.heap.size 128 2 (.slice (some ⟨lg, 0, none⟩) k k) k (ls.flatMap ldC) := by rw [hV]; exact HLR.out.alloc _
     have HV := hidden hV; have HPG := hidden hpg; have HBV := hidden hbV; have HRV := hidden hrV; have HLV := hidden hlV
     have hlgp : lg < pg := by have := own_lt HLR.out (k := lg) rfl; omega
     have hwpg : w.heap.size ≤ pg := by have := HB.out.size; omega
     clear hV hpg hbV hrV hlV HB HLR
     go_upto_region 13 with fail
     rw [← HV.out, ← HPG.out]
     clear hm2
     go_wp2_with fail
     go_loopw [60] (fun i wr => ∃ (m : Nat) (ys : List Value), m ≤ k ∧ i = .int .i64 m ∧ Hid (wr.ownsRow w.heap.size 133 3 (.slice (some ⟨pg, 0, none⟩) k k) k ys ∧ ∀ j, j < m * 3 → ys[j]? = (plansTo ls l k)[j]?) ∧ Hid (wr.ownsRow w.heap.size 128 2 (.slice (some ⟨lg, 0, none⟩) k k) k (ls.flatMap ldC)) ∧ Hid (lateP ls l l.length 0 = lateP ls l (k - m) m) ∧ Hid (Below w.heap.size w wr)) (fun i _ => k - (intOf i).toNat)
     case atStart => exact ⟨0, _, Nat.zero_le _, rfl, hidden ⟨HRV.out, fun j hj => by omega⟩, HLV, hidden (by rw [← HNL.out]; rfl), HBV⟩
     case round =>
      clear HRV HBV HV HLV
      obtain ⟨m, ys, hm, rfl, HY, HL2, HS, HB⟩ := hrel
      by_cases hlt : m < k
      ·have hli : (m : Int) < (k : Int) := by omega
       have hl0 : (0 : Int) ≤ (m : Int) := by omega
       have hkl : m < l.length := by rw [← HNL.out]; exact hlt
       obtain ⟨t, ht⟩ : ∃ t, t = l[m] := ⟨_, rfl⟩
       have q := HTC.out wr HB.out m hkl
       rw [← ht] at q
       obtain ⟨q0, q1, q2, q3⟩ := q
       have hdl := HFT.out t (by rw [ht]; exact List.getElem_mem hkl)
       obtain ⟨X, hX⟩ : ∃ X : World, X = wr.alloc (.cells #[.string t.word, .int .i64 t.per, .int .i64 t.dl, .int .i64 t.off] 67 (0, 0)) := ⟨_, rfl⟩
       obtain ⟨tb, htb⟩ : ∃ tb, tb = wr.heap.size := ⟨_, rfl⟩
       have hbX : Below w.heap.size w X := by rw [hX]; exact HB.out.alloc HB.out.size _
       have hkX : Blk X tb #[.string t.word, .int .i64 t.per, .int .i64 t.dl, .int .i64 t.off] 67 := by rw [hX, htb]; exact blk_new wr _ _
       have hrX : X.ownsRow w.heap.size 133 3 (.slice (some ⟨pg, 0, none⟩) k k) k ys := by rw [hX]; exact HY.out.1.alloc _
       have hlX : X.ownsRow w.heap.size 128 2 (.slice (some ⟨lg, 0, none⟩) k k) k (ls.flatMap ldC) := by rw [hX]; exact HL2.out.alloc _
       obtain ⟨c, hcc⟩ : ∃ c, c = costAt ls m := ⟨_, rfl⟩
       have e0 := (ld_cells hlX (k := m) (by have := HLL.out; omega) HLL.out).1
       rw [← hcc] at e0
       have hco := ld_at HOK.out (k := m) (by have := HLL.out; omega)
       rw [← hcc] at hco
       obtain ⟨hc1, hc2, _, _⟩ := hco
       simp only at hc1 hc2
       have HAH := hidden (fun (w' : World) (hb : Below X.heap.size X w') => rates_ahead ls lg k k m w' (ownsRow_chg hlX (Chg.ofBelow (S := fun _ => False) hb) (fun _ _ => id)) HLL.out (by omega) hlt)
       have hlate := lateP_at ls l (k - m - 1) m
       rw [show k - m - 1 + 1 = k - m by omega, ← HS.out] at hlate
       have HX := hidden hX; have HTB := hidden htb; have HBX := hidden hbX; have HKX := hidden hkX; have HRX := hidden hrX; have HLX := hidden hlX; have HLT := hidden hlate; have HCC := hidden hcc; have HY2 := hidden HY.out.2; have HT := hidden ht
       have htbX := hkX.lt
       clear hX htb hbX hkX hrX hlX hlate hcc ht HY HS HL2
       go_upto_region 16 with fail
       rw [← HX.out, ← HTB.out]
       clear q0 q1 q2 q3
       have hlgX : lg < X.heap.size := own_lt HLX.out (k := lg) rfl
       have k0 : ∀ u : {w' : World // Below X.heap.size X w'}, u.val.cell? ⟨lg, m * 2, none⟩ = some (.int .i64 c) := fun u => (u.property.cell (p := ⟨lg, m * 2, none⟩) hlgX).trans e0
       have hne : Nonempty {w' : World // Below X.heap.size X w'} := ⟨⟨X, Below.refl _ _⟩⟩
       clear e0
       refine wp_region_turns (C := OneOf fun w' => Below X.heap.size X w') 8 [7] ⟨X.drew, (Below.refl _ X).drew⟩ (by kernel_rfl) (by kernel_rfl) rfl ?_
       rw [show List.range 8 = [0, 1, 2, 3, 4, 5, 6, 7] from rfl]
       repeat (refine wpT_step rfl rfl (fun K hK => ?_); go_simp; refine hK _ ?_; clear hK K)
       refine wpT_call1 rfl rfl 54 #[.slice (some ⟨lg, 0, none⟩) k k, .int .i64 m] (by go_simp) ((HAH.out _ (Below.refl _ X).drew).mono ?_)
       rintro e w2 ⟨ua, uc, rfl, hr2, hb2⟩
       have hbX2 : Below X.heap.size X w2 := (Below.refl _ X).drew.trans hb2
       refine ⟨_, rfl, hbX2, wpT_end ?_⟩
       intro w' hw'
       rw [show w' = w2 from hw']
       clear hw' w'
       obtain ⟨ah, hah⟩ : ∃ ah, ah = aheadP ls m k := ⟨_, rfl⟩
       rw [← hah] at hr2 ⊢
       have hahl : ah.length ≤ 8 := by rw [hah]; have := aheadP_len ls m k; omega
       have hahk : ∀ x ∈ ah, LdOk x := by rw [hah]; exact ahead_ok HOK.out m k (by have := HLL.out; omega)
       have hDD : (fun r => c + within r ah) = demandT ls m := by
        funext r; unfold demandT; rw [HCC.out, hah, HLL.out]
       have HRS := hidden (fun (w' : World) (hb : Below w2.heap.size w2 w') => rates_respond c t.dl ah (.slice ua ah.length uc) w' (ownsRow_chg hr2 (Chg.ofBelow (S := fun _ => False) hb) (fun _ _ => id)) hahk hahl hc1 hc2 hdl.1 hdl.2)
       rw [hDD] at HRS
       obtain ⟨R, hR⟩ : ∃ R, R = respT (demandT ls m) t.dl := ⟨_, rfl⟩
       rw [← hR] at HRS
       have hRa : respAt ls l m = R := by
        rw [hR, HT.out]; unfold respAt; congr 1
        simp [hkl]
       have hpl : (planAt ls l m) = [.int .i64 c, .int .i64 (ah.length : Int), .int .i64 R] := by
        unfold planAt; rw [hRa, ← HCC.out, HLL.out, ← hah]
       have hkt2 := HKX.out.sub hbX2 HKX.out.lt
       have z2 : w2.cell? ⟨tb, 2, none⟩ = some (.int .i64 t.dl) := hkt2.cell 2 _ rfl
       have hrp2 := ownsRow_chg HRX.out (Chg.ofBelow (S := fun _ => False) hbX2) (fun _ _ => id)
       have hrl2 := ownsRow_chg HLX.out (Chg.ofBelow (S := fun _ => False) hbX2) (fun _ _ => id)
       have hbw2 := HBX.out.trans (hbX2.mono HBX.out.size)
       have hlate2 := HLT.out
       rw [hRa] at hlate2
       have HLT2 := hidden hlate2; have HPL := hidden hpl; have HP2 := hidden hrp2; have HL3 := hidden hrl2; have HB2 := hidden hbw2
       obtain ⟨A, hAA⟩ : ∃ A, A = ah.length := ⟨_, rfl⟩
       rw [← hAA] at HRS HPL ⊢
       have hA8 : A ≤ 8 := by omega
       have htb2 := hkt2.lt
       have HRS2 := hidden (HRS.out w2 (Below.refl _ _))
       clear hr2 hb2 hbX2 hah hahl hahk hDD hR hRa hpl hkt2 hrp2 hrl2 hbw2 hlate2 hAA HRS k0 hne HAH HRX HLX HLT HKX hdl hc1 hc2
       simp only [List.drop_succ_cons, List.drop_zero]
       go_wp2_with fail
       refine HRS2.out.mono ?_
       rintro e w3 ⟨rfl, hb3⟩
       have hrp3 := ownsRow_chg HP2.out (Chg.ofBelow (S := fun _ => False) hb3) (fun _ _ => id)
       have hrl3 := ownsRow_chg HL3.out (Chg.ofBelow (S := fun _ => False) hb3) (fun _ _ => id)
       have HP3 := hidden hrp3; have HL4 := hidden hrl3; have HB3 := hidden (HB2.out.trans (hb3.mono HB2.out.size))
       clear hrp3 hrl3 hb3 HRS2 HP2 HL3 HB2 z2
       by_cases hR0 : R = 0
       ·have hd : decide (R ≠ 0) = false := by simp [hR0]
        have hfin : Hid (admitT ws l = (11, m)) := by
         show admitT ws l = _
         rw [HAD2.out, HLT2.out, if_pos hR0]
        rw [hd]
        clear HLT2 HAD2 hd
        go_wp2_with fail
        exact bodyPost_ret (v := .tuple #[.slice none 0 0, .int .i64 11, .int .i64 m]) (by simp [results, Tryz.results28, go_sem]) rfl (AdmPost.err hfin.out (by decide) rfl HB3.out)
       ·have hd : decide (R ≠ 0) = true := by simp [hR0]
        rw [hd]
        obtain ⟨pg', cap', hv, _, hpgt, _, _, hcc⟩ := row_cells HP3.out (by omega)
        obtain ⟨rfl, rfl⟩ : pg = pg' ∧ k = cap' := by simpa using hv
        have hyl : ys.length = k * 3 := HP3.out.1
        obtain ⟨y0, hy0⟩ : ∃ x, ys[m * 3]? = some x := ⟨_, List.getElem?_eq_getElem (by omega)⟩
        obtain ⟨y1, hy1⟩ : ∃ x, ys[m * 3 + 1]? = some x := ⟨_, List.getElem?_eq_getElem (by omega)⟩
        obtain ⟨y2, hy2⟩ : ∃ x, ys[m * 3 + 2]? = some x := ⟨_, List.getElem?_eq_getElem (by omega)⟩
        have e0 : w3.cell? ⟨pg, m * 3, none⟩ = some y0 := hcc _ _ hy0
        have e1 : w3.cell? ⟨pg, m * 3 + 1, none⟩ = some y1 := hcc _ _ hy1
        have e2 : w3.cell? ⟨pg, m * 3 + 2, none⟩ = some y2 := hcc _ _ hy2
        have f0 := row_free' HP3.out (m * 3); have f1 := row_free' HP3.out (m * 3 + 1); have f2 := row_free' HP3.out (m * 3 + 2)
        have HYL := hidden hyl
        clear hv hcc hy0 hy1 hy2 hyl hd
        go_wp2_with fail
        go_roundw
        case rel =>
         have p0 := plans_get ls l k m 0 hlt (by omega)
         have p1 := plans_get ls l k m 1 hlt (by omega)
         have p2 := plans_get ls l k m 2 hlt (by omega)
         rw [HPL.out] at p0 p1 p2
         refine ⟨m + 1, ((ys.set (m * 3) (.int .i64 c)).set (m * 3 + 1) (.int .i64 A)).set (m * 3 + 2) (.int .i64 R), by omega, by go_num, hidden ⟨ownsRow_set (ownsRow_set (ownsRow_set HP3.out (m * 3) _) (m * 3 + 1) _) (m * 3 + 2) _, set3_pre hlt HYL.out HY2.out (by simpa using p0) (by simpa using p1) (by simpa using p2)⟩, hidden ?_, hidden ?_, hidden (((HB3.out.setCell hwpg _).setCell hwpg _).setCell hwpg _)⟩
         ·refine ownsRow_chg HL4.out ((((Chg.refl (fun b => b = pg) w3).setCell (p := ⟨pg, m * 3, none⟩) rfl _).setCell (p := ⟨pg, m * 3 + 1, none⟩) rfl _).setCell (p := ⟨pg, m * 3 + 2, none⟩) rfl _) (fun b hb e => ?_)
          have : lg = b := by simpa [Value.ownBlock] using hb
          omega
         ·rw [HLT2.out, if_neg hR0]; congr 1
        case measure => simp [intOf]; omega
      ·obtain rfl : m = k := by omega
       have hli : ¬ (m : Int) < (m : Int) := by omega
       have hys : ys = plansTo ls l m := eq_of_pre HY.out.1.1 (plansTo_len ls l m) HY.out.2
       have hrow : wr.ownsRow w.heap.size 133 3 (.slice (some ⟨pg, 0, none⟩) m m) m (plansTo ls l m) := by rw [← hys]; exact HY.out.1
       have hlate := HS.out
       rw [Nat.sub_self] at hlate
       have hadm := HAD2.out
       rw [hlate] at hadm
       have hadm : admitT ws l = (0, 0) := hadm
       have HRW := hidden hrow; have HAA := hidden hadm
       clear hys hrow hlate hadm HY HS HAD2
       go_wp2_with fail
       refine bodyPost_ret (v := .tuple #[.slice (some ⟨pg, 0, none⟩) m m, .int .i64 0, .int .i64 0]) (by simp [results, Tryz.results28, go_sem]) rfl ⟨⟨some ⟨pg, 0, none⟩, m, m, ?_, fun e => ?_, fun e => ⟨HNL.out, by omega, by omega, ?_⟩⟩, HB.out⟩
       ·rw [HAA.out]; rfl
       ·rw [HAA.out] at e; exact absurd rfl e
       ·rw [← HLS.out]; exact HRW.out
end Go.Proofs.YtcphhbofjkenaaaGreatDoor
namespace Go.Proofs.YtcphhbofjkenaaaGreatDoor
set_option maxRecDepth 100000
set_option maxHeartbeats 16000000
open Go Go.RowKit
set_option linter.unusedVariables false
set_option linter.unusedSimpArgs false
def goesT (l : List TK) (j i : Nat) : Bool := decide ((l.getD j default).per < (l.getD i default).per) || (decide ((l.getD j default).per = (l.getD i default).per) && decide (j < i))
def firstT (l : List TK) (i : Nat) : Nat → Nat → Bool
 | 0, _ => true
 | f + 1, k => if goesT l k i = true then false else firstT l i f (k + 1)
def TsAt (w : World) (tg : Nat) (l : List TK) : Prop := tg < w.heap.size ∧ ∀ (j : Nat) (u : Value), (l.flatMap TK.cells)[j]? = some u → w.cell? ⟨tg, j, none⟩ = some u
theorem TsAt.below {w w' : World} {tg : Nat} {l : List TK} (h : TsAt w tg l) (hb : Below w.heap.size w w') : TsAt w' tg l := ⟨Nat.lt_of_lt_of_le h.1 hb.size, fun j u hj => (hb.cell (p := ⟨tg, j, none⟩) h.1).trans (h.2 j u hj)⟩
theorem TsAt.get {w : World} {tg : Nat} {l : List TK} (h : TsAt w tg l) {k : Nat} (hk : k < l.length) : w.cell? ⟨tg, k * 4, none⟩ = some (.string (l.getD k default).word) ∧ w.cell? ⟨tg, k * 4 + 1, none⟩ = some (.int .i64 (l.getD k default).per) ∧ w.cell? ⟨tg, k * 4 + 2, none⟩ = some (.int .i64 (l.getD k default).dl) ∧ w.cell? ⟨tg, k * 4 + 3, none⟩ = some (.int .i64 (l.getD k default).off) := by
 have e : l.getD k default = l[k] := by simp [hk]
 rw [e]
 have key : ∀ j u, (TK.cells l[k])[j]? = some u → w.cell? ⟨tg, k * 4 + j, none⟩ = some u := fun j u hj => by
  have hj4 : j < 4 := by have := (List.getElem?_eq_some_iff.1 hj).1; simpa [TK.cells] using this
  exact h.2 _ _ (by rw [flat_get TK.cells 4 (fun _ => rfl) l k j hk hj4]; exact hj)
 exact ⟨key 0 _ rfl, key 1 _ rfl, key 2 _ rfl, key 3 _ rfl⟩
section
attribute [local go_sem] quietG
theorem keep_first {w : World} {tg n tc : Nat} {l : List TK} (h : TsAt w tg l) (hn : n = l.length) (hnc : n ≤ tc) (h8 : n ≤ 8) (i : Nat) (hi : i < n) :
  Calls Tryz.prog 60 #[.slice (some ⟨tg, 0, none⟩) n tc, .int .i64 i] w fun e w' => e = .returned (.bool (firstT l i n 0)) ∧ Below w.heap.size w w' := by
 obtain ⟨F, hF⟩ : ∃ F, F = firstT l i n 0 := ⟨_, rfl⟩
 rw [← hF]
 have HF : Hid (F = firstT l i (n - 0) 0) := hidden hF
 have HH := hidden h; have HN := hidden hn
 have htg := h.1
 clear hF h hn
 go_enter Tryz.func60, Tryz.ntmps60
 go_wp2_with fail
 go_loopw [5] (fun k wr => ∃ q : Nat, q ≤ n ∧ k = .int .i64 q ∧ Hid (F = firstT l i (n - q) q) ∧ Hid (Below w.heap.size w wr)) (fun k _ => n - (intOf k).toNat)
 case atStart => exact ⟨0, Nat.zero_le _, rfl, HF, hidden (Below.refl _ _)⟩
 case round =>
  clear HF
  obtain ⟨q, hq, rfl, HF, HB⟩ := hrel
  by_cases hlt : q < n
  ·have hqi : (q : Int) < (n : Int) := by omega
   have hii : (i : Int) < (n : Int) := by omega
   have hT := HH.out.below HB.out
   obtain ⟨_, a1, _, _⟩ := hT.get (k := q) (by rw [← HN.out]; exact hlt)
   obtain ⟨_, b1, _, _⟩ := hT.get (k := i) (by rw [← HN.out]; exact hi)
   obtain ⟨pq, hpq⟩ : ∃ p, p = (l.getD q default).per := ⟨_, rfl⟩
   obtain ⟨pi, hpi⟩ : ∃ p, p = (l.getD i default).per := ⟨_, rfl⟩
   rw [← hpq] at a1
   rw [← hpi] at b1
   have hst : F = if goesT l q i = true then false else firstT l i (n - (q + 1)) (q + 1) := by
    rw [HF.out, show n - q = (n - (q + 1)) + 1 by omega, firstT]
   have hgo : goesT l q i = (decide (pq < pi) || (decide (pq = pi) && decide (q < i))) := by unfold goesT; rw [← hpq, ← hpi]
   rw [hgo] at hst
   have htgr := hT.1
   have HS := hidden hst
   clear hst hgo hpq hpi hT HF
   by_cases c1 : pq < pi
   ·have x1 : decide (pq < pi) = true := decide_eq_true c1
    have HS2 : Hid (F = false) := hidden (by rw [HS.out, x1]; rfl)
    clear HS
    go_wp2_with fail
    go_quiet (fail)
    go_wp2_with fail
    go_ret
    exact ⟨by rw [HS2.out]; rfl, HB.out.trans ⟨rfl, rfl, rfl, Nat.le_refl _, fun _ _ => rfl⟩⟩
   ·have x1 : decide (pq < pi) = false := decide_eq_false c1
    by_cases c2 : pq = pi
    ·have x2 : decide (pq = pi) = true := decide_eq_true c2
     have y2 : (pq == pi) = true := by simp [c2]
     by_cases c3 : q < i
     ·have x3 : decide (q < i) = true := decide_eq_true c3
      have y3 : (q : Int) < (i : Int) := by omega
      have z3 : decide ((q : Int) < (i : Int)) = true := decide_eq_true y3
      have HS2 : Hid (F = false) := hidden (by rw [HS.out, x1, x2, x3]; rfl)
      clear HS c2 x2 x3
      go_wp2_with fail
      go_quiet (fail)
      go_wp2_with fail
      go_ret
      exact ⟨by rw [HS2.out]; rfl, HB.out.trans ⟨rfl, rfl, rfl, Nat.le_refl _, fun _ _ => rfl⟩⟩
     ·have x3 : decide (q < i) = false := decide_eq_false c3
      have y3 : ¬ (q : Int) < (i : Int) := by omega
      have z3 : decide ((q : Int) < (i : Int)) = false := decide_eq_false y3
      have HS2 : Hid (F = firstT l i (n - (q + 1)) (q + 1)) := hidden (by rw [HS.out, x1, x2, x3]; rfl)
      clear HS c2 x2 x3
      go_wp2_with fail
      go_quiet (fail)
      go_wp2_with fail
      go_roundw
      case rel => exact ⟨q + 1, by omega, by go_num, HS2, hidden (HB.out.trans ⟨rfl, rfl, rfl, Nat.le_refl _, fun _ _ => rfl⟩)⟩
      case measure => simp [intOf]; omega
    ·have x2 : decide (pq = pi) = false := decide_eq_false c2
     have y2 : (pq == pi) = false := by simpa using c2
     have HS2 : Hid (F = firstT l i (n - (q + 1)) (q + 1)) := hidden (by rw [HS.out, x1, x2]; rfl)
     clear HS x2
     go_wp2_with fail
     go_quiet (fail)
     go_wp2_with fail
     go_roundw
     case rel => exact ⟨q + 1, by omega, by go_num, HS2, hidden (HB.out.trans ⟨rfl, rfl, rfl, Nat.le_refl _, fun _ _ => rfl⟩)⟩
     case measure => simp [intOf]; omega
  ·obtain rfl : q = n := by omega
   have hji : ¬ (q : Int) < (q : Int) := by omega
   have HS2 : Hid (F = true) := hidden (by rw [HF.out, Nat.sub_self]; rfl)
   go_wp2_with fail
   go_ret
   exact ⟨by rw [HS2.out]; rfl, HB.out⟩
end
end Go.Proofs.YtcphhbofjkenaaaGreatDoor
namespace Go.Proofs.YtcphhbofjkenaaaGreatDoor
set_option maxRecDepth 100000
set_option maxHeartbeats 16000000
open Go Go.RowKit
set_option linter.unusedVariables false
set_option linter.unusedSimpArgs false
def allT (ws : List RW) (l : List TK) : Nat → Int
 | 0 => 0
 | k + 1 => allT ws l k + (findI ws (l.getD k default).word).1.steps
def leastT (l : List TK) : Nat → Int
 | 0 => (l.getD 0 default).dl
 | k + 1 => min (leastT l k) (l.getD k default).dl
theorem keep_late {w : World} {bb tg n tc : Nat} {R : List PE × Int × Int × List Int} {ws : List RW} {l : List TK} (hs : KSys w bb R ws) (h : TsAt w tg l) (hn : n = l.length) (hn0 : 0 < n) (hnc : n ≤ tc) (h8 : n ≤ 8) (i : Nat) (hi : i < n)
  (hf : firstT l i n 0 = false) (hc : ∀ k, k < n → 0 ≤ (findI ws (l.getD k default).word).1.steps ∧ (findI ws (l.getD k default).word).1.steps ≤ 1000000000) (hd : ∀ k, k < n → 0 ≤ (l.getD k default).dl ∧ (l.getD k default).dl ≤ 1000000) :
  Calls Tryz.prog 30 #[.pointer (some ⟨bb, 0, none⟩), .slice (some ⟨tg, 0, none⟩) n tc, .int .i64 i] w fun e w' => e = .returned (.bool (decide (leastT l n < allT ws l n))) ∧ Below w.heap.size w w' := by
 have HF := hidden (keep_first h hn hnc h8 i hi)
 rw [hf] at HF
 have hii : (i : Int) < (n : Int) := by omega
 have hi0 : ¬ (i : Int) < 0 := by omega
 have hni : decide (n ≤ i) = false := decide_eq_false (by omega)
 have HS := hidden hs; have HH := hidden h; have HN := hidden hn; have HC := hidden hc; have HD := hidden hd
 clear hs h hn hf hc hd
 go_enter Tryz.func30, Tryz.ntmps30
 go_wp2_with fail
 refine HF.out.mono ?_
 rintro e w1 ⟨rfl, hb1⟩
 have HB1 := hidden hb1
 have hT1 := HH.out.below hb1
 obtain ⟨_, _, a2, _⟩ := hT1.get (k := 0) (by have := HN.out; omega)
 obtain ⟨d0, hd0⟩ : ∃ d, d = (l.getD 0 default).dl := ⟨_, rfl⟩
 rw [← hd0, Nat.zero_mul, Nat.zero_add] at a2
 have htg1 := hT1.1
 have HD0 : Hid (d0 = leastT l 0) := hidden hd0
 clear hb1 hT1 hd0 HF
 go_wp2_with fail
 go_loopw [7, 8, 9] (fun al le k wr => ∃ (q : Nat) (a b : Int), q ≤ n ∧ al = .int .i64 a ∧ le = .int .i64 b ∧ k = .int .i64 q ∧ Hid (a = allT ws l q) ∧ Hid (b = leastT l q) ∧ (0 ≤ a ∧ a ≤ (q : Int) * 1000000000) ∧ (0 ≤ b ∧ b ≤ 1000000) ∧ Hid (Below w.heap.size w wr)) (fun _ _ k _ => n - (intOf k).toNat)
 case atStart =>
  have h0 := HD.out 0 hn0
  refine ⟨0, 0, d0, Nat.zero_le _, rfl, rfl, rfl, hidden rfl, HD0, ⟨Int.le_refl _, by omega⟩, ?_, HB1⟩
  rw [HD0.out]; exact h0
 case round =>
  clear HD0 HB1 a2
  obtain ⟨q, a, b, hq, rfl, rfl, rfl, HA, HBB, ha, hbb, HB⟩ := hrel
  by_cases hlt : q < n
  ·have hqi : (q : Int) < (n : Int) := by omega
   have hT := HH.out.below HB.out
   obtain ⟨c0, _, c2, _⟩ := hT.get (k := q) (by rw [← HN.out]; exact hlt)
   obtain ⟨t, ht⟩ : ∃ t, t = l.getD q default := ⟨_, rfl⟩
   rw [← ht] at c0 c2
   have hS := HS.out.below HB.out
   obtain ⟨ev, cv, hsys⟩ := hS.sys
   have HFD := hidden (forth_find t.word hsys (by have := hS.inv.l; omega))
   rw [find_eq hS.alk.toAlike] at HFD
   obtain ⟨nd, net, hg, st, str, hI⟩ : ∃ nd net hg st str, (findI ws t.word).1 = ⟨nd, net, hg, st, str⟩ := ⟨_, _, _, _, _, rfl⟩
   rw [hI] at HFD
   simp only [Inf.val] at HFD
   generalize (findI ws t.word).2 = er at HFD
   have hst : (findI ws t.word).1.steps = st := by rw [hI]
   have hcq := HC.out q hlt
   have hdq := HD.out q hlt
   rw [← ht] at hcq hdq
   rw [hst] at hcq
   have HAN : Hid (allT ws l (q + 1) = a + st) := hidden (by rw [allT, ← ht, hst, HA.out])
   have HBN : Hid (leastT l (q + 1) = min b t.dl) := hidden (by rw [leastT, ← ht, HBB.out])
   have htgr := hT.1
   have hq8 : (q : Int) * 1000000000 ≤ 8000000000 := by omega
   have HT := hidden hT
   clear ht hS hsys hI hst hT HA HBB
   go_wp2_with fail
   refine HFD.out.mono ?_
   rintro e w3 ⟨rfl, hb3⟩
   have hT3 := HT.out.below hb3
   obtain ⟨X, hX⟩ : ∃ X : World, X = w3.alloc (.cells #[.int .i64 nd, .int .i64 net, .int .i64 hg, .int .i64 st, .bool str] 36 (0, 0)) := ⟨_, rfl⟩
   obtain ⟨kb, hkb⟩ : ∃ kb, kb = w3.heap.size := ⟨_, rfl⟩
   have hbX : Below w3.heap.size w3 X := by rw [hX]; exact (Below.refl _ _).alloc (Nat.le_refl _) _
   have hkX : Blk X kb #[.int .i64 nd, .int .i64 net, .int .i64 hg, .int .i64 st, .bool str] 36 := by rw [hX, hkb]; exact blk_new w3 _ _
   have z3 : X.cell? ⟨kb, 3, none⟩ = some (.int .i64 st) := hkX.cell 3 _ rfl
   have hkl := hkX.lt
   have z2 : X.cell? ⟨tg, q * 4 + 2, none⟩ = some (.int .i64 t.dl) := ((Below.trans hb3 (hbX.mono hb3.size)).cell (p := ⟨tg, q * 4 + 2, none⟩) htgr).trans c2
   have htgX : tg < X.heap.size := Nat.lt_of_lt_of_le hT3.1 hbX.size
   have HBX := hidden (HB.out.trans ((hb3.trans (hbX.mono hb3.size)).mono HB.out.size))
   have HX := hidden hX; have HKB := hidden hkb
   clear hb3 hT3 hX hkb hbX hkX HFD c0 c2 HB HT
   go_upto_region 9 with fail
   rw [← HX.out, ← HKB.out]
   go_wp2_with fail
   go_roundw
   case rel => exact ⟨q + 1, a + st, min b t.dl, by omega, by go_num, by go_num, by go_num, hidden HAN.out.symm, hidden HBN.out.symm, by omega, by omega, HBX⟩
   case measure => simp [intOf]; omega
  ·obtain rfl : q = n := by omega
   have hji : ¬ (q : Int) < (q : Int) := by omega
   go_wp2_with fail
   go_ret
   refine ⟨?_, HB.out⟩
   rw [← HA.out, ← HBB.out]; rfl
attribute [local go_sem] quietG
structure Mk3 (w : World) (n nn : Nat) (iv : Value) (p : Option (Nat × Nat)) (g1 g2 : Option Nat) (w' : World) : Prop where
 bel : Below w.heap.size w w'
 wld : ∀ q vg, p = some (q, vg) → w.heap.size ≤ q ∧ Blk w' q #[.slice (some ⟨vg, 0, none⟩) nn nn, .slice none 0 0, iv] 118 ∧ IRow w.heap.size w' (.slice (some ⟨vg, 0, none⟩) nn nn) (List.replicate nn 0)
 r1 : ∀ g, g1 = some g → w.heap.size ≤ g ∧ w'.rowIs g 168 n (fun _ => .pointer none)
 r2 : ∀ g, g2 = some g → w.heap.size ≤ g ∧ w'.rowIs g 168 n (fun _ => .pointer none)
 ne : ∀ a b, g1 = some a → g2 = some b → a ≠ b
section
variable {w w' w2 : World} {n nn : Nat} {iv : Value} {p : Option (Nat × Nat)} {g1 g2 : Option Nat}
theorem Mk3.nil (w : World) (n nn : Nat) (iv : Value) : Mk3 w n nn iv none none none w.drew := ⟨(Below.refl _ w).drew, fun _ _ h => (by cases h), fun _ h => (by cases h), fun _ h => (by cases h), fun _ _ h => (by cases h)⟩
theorem Mk3.more (h : Mk3 w n nn iv p g1 g2 w') (hb : Below w'.heap.size w' w2) : Mk3 w n nn iv p g1 g2 w2 :=
 ⟨h.bel.trans (hb.mono h.bel.size), fun q vg e => by
  obtain ⟨a, b, c⟩ := h.wld q vg e
  exact ⟨a, b.sub hb b.lt, ownsRow_chg c (Chg.ofBelow (S := fun _ => False) hb) (fun _ _ => id)⟩, fun g e => by
  obtain ⟨a, b⟩ := h.r1 g e
  exact ⟨a, b.of_block (hb.block g b.lt)⟩, fun g e => by
  obtain ⟨a, b⟩ := h.r2 g e
  exact ⟨a, b.of_block (hb.block g b.lt)⟩, h.ne⟩
theorem Mk3.world {q vg : Nat} (h : Mk3 w n nn iv none g1 g2 w') (hq : w'.heap.size ≤ q) (hb : Blk w2 q #[.slice (some ⟨vg, 0, none⟩) nn nn, .slice none 0 0, iv] 118) (hr : IRow w'.heap.size w2 (.slice (some ⟨vg, 0, none⟩) nn nn) (List.replicate nn 0)) (hw : Below w'.heap.size w' w2) : Mk3 w n nn iv (some (q, vg)) g1 g2 w2 :=
 ⟨(h.more hw).bel, fun q' vg' e => by
  injection e with e
  injection e with e1 e2
  subst e1 e2
  exact ⟨Nat.le_trans h.bel.size hq, hb, irow_base hr h.bel.size⟩, (h.more hw).r1, (h.more hw).r2, h.ne⟩
theorem Mk3.row1 (h : Mk3 w n nn iv p none g2 w') : Mk3 w n nn iv p (some w'.heap.size) g2 (w'.alloc (.cells (madeCells #[.pointer none] n) 168)) := by
 have hm := h.more (w2 := w'.alloc (.cells (madeCells #[.pointer none] n) 168)) ((Below.refl _ w').alloc (Nat.le_refl _) _)
 exact ⟨hm.bel, hm.wld, fun g e => by
  injection e with e
  subst e
  exact ⟨h.bel.size, World.rowIs_made w' _ n _⟩, hm.r2, fun a b e1 e2 e => by
  injection e1 with e1
  have := (h.r2 b e2).2.lt
  omega⟩
theorem Mk3.row2 (h : Mk3 w n nn iv p g1 none w') : Mk3 w n nn iv p g1 (some w'.heap.size) (w'.alloc (.cells (madeCells #[.pointer none] n) 168)) := by
 have hm := h.more (w2 := w'.alloc (.cells (madeCells #[.pointer none] n) 168)) ((Below.refl _ w').alloc (Nat.le_refl _) _)
 exact ⟨hm.bel, hm.wld, hm.r1, fun g e => by
  injection e with e
  subst e
  exact ⟨h.bel.size, World.rowIs_made w' _ n _⟩, fun a b e1 e2 e => by
  injection e2 with e2
  have := (h.r1 a e1).2.lt
  omega⟩
end
theorem dOp_make {P : Program} {ops : Array Oper} {K : {w : World // True} → Act → Prop} {k : Nat} {s : {w : World // True}} {a : Act} {o : Oper} (hk : ops[k]? = some o) (hw : Region.wanted o (yielded ops a.tmps) = true) (n : Nat)
  (hr : (execOp a.eval o).run P s.val = .ok (.value (.slice (some ⟨s.val.heap.size, 0, none⟩) n n)) (s.val.alloc (.cells (madeCells #[.pointer none] n) 168)))
  (h : ∀ g W, g = s.val.heap.size → W = s.val.alloc (.cells (madeCells #[.pointer none] n) 168) → K ⟨W, trivial⟩ (a.put o.dst (.slice (some ⟨g, 0, none⟩) n n))) : dOp P ops (OneOf fun _ => True) k s K a :=
 dOp_turn1 hk hw _ _ trivial (Or.inl hr) (h _ _ rfl rfl)
theorem Tryz.infoJp : (Tryz.prog.info? 168).map (fun i => (i.zero, i.size, i.bytes)) = some (some (.pointer none), 1, 8) := by kernel_rfl
def tsOf (es : List PE) (l : List TK) : List JT := l.map fun t => ⟨t.word, t.per, t.dl, t.off, ((startOf (lastP es t.word es.length)).getD 0).toNat⟩
def newPlan : Tr := .quiet 0 (.quiet 2 (.quiet 4 (.quiet 5 (.quiet 7 (.quiet 8
 (.three 1 (.three 3 (.two 6 (.one 9 .fin) 9 (.one 6 .fin)) 6 (.two 3 (.one 9 .fin) 9 (.one 3 .fin)) 9 (.two 3 (.one 6 .fin) 6 (.one 3 .fin)))
  6 (.two 1 (.two 3 (.one 9 .fin) 9 (.one 3 .fin)) 9 (.one 1 (.one 3 .fin)))
  9 (.two 1 (.two 3 (.one 6 .fin) 6 (.one 3 .fin)) 6 (.one 1 (.one 3 .fin)))))))))
def NewPost (B : Nat) (es : List PE) (code : List Int) (nn : Nat) (l : List TK) (ls : List (Int × Int)) (ins : List Int) (w : World) (e : Ending) (w' : World) : Prop :=
 ∃ (tb gn gr : Nat) (s : SX) (jbs : List Nat) (js : List (JX × MS)), e = .returned (.pointer (some ⟨tb, 0, none⟩)) ∧ TAt B w' tb gn gr s code ⟨List.replicate nn 0, [], ins⟩ (.slice none 0 0) jbs (tsOf es l) (rksP ls) js (List.replicate l.length false) [] ∧ jbs.length = l.length ∧ js.map Prod.snd = (tsOf es l).map (fun t => beginM t.st) ∧ Below w.heap.size w w'
theorem rates_newTurns {w : World} {bb : Nat} {ev cv : Value} {es : List PE} {nv nt : Int} {code : List Int} {l : List TK} {ls : List (Int × Int)} {ta pa : Option Addr} {n tc pc : Nat} {iv : Value} {ins : List Int} {tg pg : Nat} (h : PSys w bb ev cv es nv nt code) (hi : LInv es nv nt code) (hcl : 0 < code.length)
  (hn : n = l.length) (h8 : n ≤ 8) (hta : ta = some ⟨tg, 0, none⟩) (htg : tg < w.heap.size) (htc : n ≤ tc) (ht : ∀ (j : Nat) (u : Value), (l.flatMap TK.cells)[j]? = some u → w.cell? ⟨tg, j, none⟩ = some u)
  (hpa : pa = some ⟨pg, 0, none⟩) (hpg : pg < w.heap.size) (hpc : n ≤ pc) (hp : ∀ k, k < n → w.cell? ⟨pg, k * 3 + 1, none⟩ = some (.int .i64 (rankP ls k : Int))) (hls : ls.length = n)
  (hst : ∀ t ∈ l, ∃ p : Nat, startOf (lastP es t.word es.length) = some (p : Int) ∧ p < code.length) (hj : InsAt w.heap.size w iv ins) (hil : ins.length ≤ 17592186043904) :
  Calls Tryz.prog 57 #[.pointer (some ⟨bb, 0, none⟩), .slice ta n tc, .slice pa n pc, iv] w (NewPost w.heap.size es code nv.toNat l ls ins w) := by
 have hv16 := hi.v1
 have hv0 := hi.v0
 obtain ⟨nn, rfl⟩ : ∃ nn : Nat, nv = nn := ⟨nv.toNat, by omega⟩
 simp only [Int.toNat_natCast] at *
 have hV := fun w' (hb : Below w.heap.size w w') => book_Variables (h.below (w' := w') hb)
 have hN := fun w' => mach_newWorld (w := w') (iv := iv) nn (by omega) (insAt_len hj |>.elim fun a h => h.elim fun c h => ⟨_, _, _, h⟩)
 have hmk := make_rows (P := Tryz.prog) 137 168 (.pointer none) #[.pointer none] 1 8 rfl Tryz.underlying137 Tryz.infoJp n (by omega) (by omega)
 rw [Nat.mul_one] at hmk
 have HV := hidden hV; have HN := hidden hN; have HMK := hidden hmk
 obtain ⟨ia, ic, hivv⟩ := insAt_len hj
 have HIV := hidden hivv
 subst hta hpa
 have HH := hidden h; have HI := hidden hi; have HTT := hidden ht; have HPP := hidden hp; have HST := hidden hst; have HJ := hidden hj; have HNN := hidden hn; have HLS := hidden hls
 clear hV hN hmk h hi ht hp hst hj hn hls
 generalize ins.length = il at hivv
 subst hivv
 go_enter Tryz.func57, Tryz.ntmps57
 go_upto_region 1 with fail
 go_cut [9] (fun s9 wx => ∃ tb wp vg gn gr : Nat, s9 = .pointer (some ⟨tb, 0, none⟩) ∧ Hid (w.heap.size ≤ tb ∧ Mk3 w n nn (.slice ia il ic) (some (wp, vg)) (some gn) (some gr) wx ∧ Blk wx tb #[.pointer (some ⟨wp, 0, none⟩), .slice (some ⟨gn, 0, none⟩) n n, .slice (some ⟨gr, 0, none⟩) n n, .slice none 0 0] 139))
 case first =>
  refine wp_region_plan (C := OneOf fun _ => True) 10 newPlan ⟨w.drew, trivial⟩ (by kernel_rfl) (by kernel_rfl) rfl ?_
  unfold newPlan
  iterate 6 (refine wpB_step rfl (fun K hK => ?_); go_simp; refine hK _ ?_; clear hK K)
  have HM := hidden (Mk3.nil w n nn (.slice ia il ic))
  have FIN : Hid (∀ (wp vg gn gr : Nat) (W : World), Hid (Mk3 w n nn (.slice ia il ic) (some (wp, vg)) (some gn) (some gr) W) → Hid (w.heap.size ≤ W.heap.size ∧ Mk3 w n nn (.slice ia il ic) (some (wp, vg)) (some gn) (some gr) (W.alloc (.cells #[.pointer (some ⟨wp, 0, none⟩), .slice (some ⟨gn, 0, none⟩) n n, .slice (some ⟨gr, 0, none⟩) n n, .slice none 0 0] 139 (0, 0))) ∧ Blk (W.alloc (.cells #[.pointer (some ⟨wp, 0, none⟩), .slice (some ⟨gn, 0, none⟩) n n, .slice (some ⟨gr, 0, none⟩) n n, .slice none 0 0] 139 (0, 0))) W.heap.size #[.pointer (some ⟨wp, 0, none⟩), .slice (some ⟨gn, 0, none⟩) n n, .slice (some ⟨gr, 0, none⟩) n n, .slice none 0 0] 139)) := hidden fun wp vg gn gr W h => hidden ⟨h.out.bel.size, h.out.more ((Below.refl _ W).alloc (Nat.le_refl _) _), blk_new W _ _⟩
  refine wpB_three ?_ ?_ ?_
  ·refine dOp_call1 rfl rfl 46 #[.pointer (some ⟨bb, 0, none⟩)] (by go_simp) ((HV.out _ HM.out.bel).mono ?_)
   rintro e w' ⟨rfl, rfl⟩
   refine ⟨_, rfl, trivial, ?_⟩
   refine wpB_three ?_ ?_ ?_
   ·refine dOp_call1 rfl rfl 45 #[.int .i64 nn, .slice ia il ic] (by go_simp) ((HN.out _).mono ?_)
    rintro e w' ⟨wp, vg, rfl, q1, q2, q3, q4, q5⟩
    replace HM := hidden (HM.out.world q1 q3 q4 q5)
    clear q1 q2 q3 q4 q5
    refine ⟨_, rfl, trivial, ?_⟩
    refine wpB_two ?_ ?_
    ·refine dOp_make rfl rfl n (by have hmk := HMK.out; go_simp) (fun gn w' hg hw' => ?_)
     replace HM := hidden (HM.out.row1)
     rw [← hg, ← hw'] at HM
     clear hg hw'
     refine wpB_one ?_
     ·refine dOp_make rfl rfl n (by have hmk := HMK.out; go_simp) (fun gr w' hg hw' => ?_)
      replace HM := hidden (HM.out.row2)
      rw [← hg, ← hw'] at HM
      clear hg hw'
      refine wpB_fin ?_
      intro w'' hw''
      rw [show w'' = _ from hw'']
      simp only [List.drop_succ_cons, List.drop_zero]
      go_wp2_with fail
      go_meet
      exact ⟨_, wp, vg, gn, gr, rfl, FIN.out _ _ _ _ _ HM⟩
    ·refine dOp_make rfl rfl n (by have hmk := HMK.out; go_simp) (fun gr w' hg hw' => ?_)
     replace HM := hidden (HM.out.row2)
     rw [← hg, ← hw'] at HM
     clear hg hw'
     refine wpB_one ?_
     ·refine dOp_make rfl rfl n (by have hmk := HMK.out; go_simp) (fun gn w' hg hw' => ?_)
      replace HM := hidden (HM.out.row1)
      rw [← hg, ← hw'] at HM
      clear hg hw'
      refine wpB_fin ?_
      intro w'' hw''
      rw [show w'' = _ from hw'']
      simp only [List.drop_succ_cons, List.drop_zero]
      go_wp2_with fail
      go_meet
      exact ⟨_, wp, vg, gn, gr, rfl, FIN.out _ _ _ _ _ HM⟩
   ·refine dOp_make rfl rfl n (by have hmk := HMK.out; go_simp) (fun gn w' hg hw' => ?_)
    replace HM := hidden (HM.out.row1)
    rw [← hg, ← hw'] at HM
    clear hg hw'
    refine wpB_two ?_ ?_
    ·refine dOp_call1 rfl rfl 45 #[.int .i64 nn, .slice ia il ic] (by go_simp) ((HN.out _).mono ?_)
     rintro e w' ⟨wp, vg, rfl, q1, q2, q3, q4, q5⟩
     replace HM := hidden (HM.out.world q1 q3 q4 q5)
     clear q1 q2 q3 q4 q5
     refine ⟨_, rfl, trivial, ?_⟩
     refine wpB_one ?_
     ·refine dOp_make rfl rfl n (by have hmk := HMK.out; go_simp) (fun gr w' hg hw' => ?_)
      replace HM := hidden (HM.out.row2)
      rw [← hg, ← hw'] at HM
      clear hg hw'
      refine wpB_fin ?_
      intro w'' hw''
      rw [show w'' = _ from hw'']
      simp only [List.drop_succ_cons, List.drop_zero]
      go_wp2_with fail
      go_meet
      exact ⟨_, wp, vg, gn, gr, rfl, FIN.out _ _ _ _ _ HM⟩
    ·refine dOp_make rfl rfl n (by have hmk := HMK.out; go_simp) (fun gr w' hg hw' => ?_)
     replace HM := hidden (HM.out.row2)
     rw [← hg, ← hw'] at HM
     clear hg hw'
     refine wpB_one ?_
     ·refine dOp_call1 rfl rfl 45 #[.int .i64 nn, .slice ia il ic] (by go_simp) ((HN.out _).mono ?_)
      rintro e w' ⟨wp, vg, rfl, q1, q2, q3, q4, q5⟩
      replace HM := hidden (HM.out.world q1 q3 q4 q5)
      clear q1 q2 q3 q4 q5
      refine ⟨_, rfl, trivial, ?_⟩
      refine wpB_fin ?_
      intro w'' hw''
      rw [show w'' = _ from hw'']
      simp only [List.drop_succ_cons, List.drop_zero]
      go_wp2_with fail
      go_meet
      exact ⟨_, wp, vg, gn, gr, rfl, FIN.out _ _ _ _ _ HM⟩
   ·refine dOp_make rfl rfl n (by have hmk := HMK.out; go_simp) (fun gr w' hg hw' => ?_)
    replace HM := hidden (HM.out.row2)
    rw [← hg, ← hw'] at HM
    clear hg hw'
    refine wpB_two ?_ ?_
    ·refine dOp_call1 rfl rfl 45 #[.int .i64 nn, .slice ia il ic] (by go_simp) ((HN.out _).mono ?_)
     rintro e w' ⟨wp, vg, rfl, q1, q2, q3, q4, q5⟩
     replace HM := hidden (HM.out.world q1 q3 q4 q5)
     clear q1 q2 q3 q4 q5
     refine ⟨_, rfl, trivial, ?_⟩
     refine wpB_one ?_
     ·refine dOp_make rfl rfl n (by have hmk := HMK.out; go_simp) (fun gn w' hg hw' => ?_)
      replace HM := hidden (HM.out.row1)
      rw [← hg, ← hw'] at HM
      clear hg hw'
      refine wpB_fin ?_
      intro w'' hw''
      rw [show w'' = _ from hw'']
      simp only [List.drop_succ_cons, List.drop_zero]
      go_wp2_with fail
      go_meet
      exact ⟨_, wp, vg, gn, gr, rfl, FIN.out _ _ _ _ _ HM⟩
    ·refine dOp_make rfl rfl n (by have hmk := HMK.out; go_simp) (fun gn w' hg hw' => ?_)
     replace HM := hidden (HM.out.row1)
     rw [← hg, ← hw'] at HM
     clear hg hw'
     refine wpB_one ?_
     ·refine dOp_call1 rfl rfl 45 #[.int .i64 nn, .slice ia il ic] (by go_simp) ((HN.out _).mono ?_)
      rintro e w' ⟨wp, vg, rfl, q1, q2, q3, q4, q5⟩
      replace HM := hidden (HM.out.world q1 q3 q4 q5)
      clear q1 q2 q3 q4 q5
      refine ⟨_, rfl, trivial, ?_⟩
      refine wpB_fin ?_
      intro w'' hw''
      rw [show w'' = _ from hw'']
      simp only [List.drop_succ_cons, List.drop_zero]
      go_wp2_with fail
      go_meet
      exact ⟨_, wp, vg, gn, gr, rfl, FIN.out _ _ _ _ _ HM⟩
  ·refine dOp_make rfl rfl n (by have hmk := HMK.out; go_simp) (fun gn w' hg hw' => ?_)
   replace HM := hidden (HM.out.row1)
   rw [← hg, ← hw'] at HM
   clear hg hw'
   refine wpB_two ?_ ?_
   ·refine dOp_call1 rfl rfl 46 #[.pointer (some ⟨bb, 0, none⟩)] (by go_simp) ((HV.out _ HM.out.bel).mono ?_)
    rintro e w' ⟨rfl, rfl⟩
    refine ⟨_, rfl, trivial, ?_⟩
    refine wpB_two ?_ ?_
    ·refine dOp_call1 rfl rfl 45 #[.int .i64 nn, .slice ia il ic] (by go_simp) ((HN.out _).mono ?_)
     rintro e w' ⟨wp, vg, rfl, q1, q2, q3, q4, q5⟩
     replace HM := hidden (HM.out.world q1 q3 q4 q5)
     clear q1 q2 q3 q4 q5
     refine ⟨_, rfl, trivial, ?_⟩
     refine wpB_one ?_
     ·refine dOp_make rfl rfl n (by have hmk := HMK.out; go_simp) (fun gr w' hg hw' => ?_)
      replace HM := hidden (HM.out.row2)
      rw [← hg, ← hw'] at HM
      clear hg hw'
      refine wpB_fin ?_
      intro w'' hw''
      rw [show w'' = _ from hw'']
      simp only [List.drop_succ_cons, List.drop_zero]
      go_wp2_with fail
      go_meet
      exact ⟨_, wp, vg, gn, gr, rfl, FIN.out _ _ _ _ _ HM⟩
    ·refine dOp_make rfl rfl n (by have hmk := HMK.out; go_simp) (fun gr w' hg hw' => ?_)
     replace HM := hidden (HM.out.row2)
     rw [← hg, ← hw'] at HM
     clear hg hw'
     refine wpB_one ?_
     ·refine dOp_call1 rfl rfl 45 #[.int .i64 nn, .slice ia il ic] (by go_simp) ((HN.out _).mono ?_)
      rintro e w' ⟨wp, vg, rfl, q1, q2, q3, q4, q5⟩
      replace HM := hidden (HM.out.world q1 q3 q4 q5)
      clear q1 q2 q3 q4 q5
      refine ⟨_, rfl, trivial, ?_⟩
      refine wpB_fin ?_
      intro w'' hw''
      rw [show w'' = _ from hw'']
      simp only [List.drop_succ_cons, List.drop_zero]
      go_wp2_with fail
      go_meet
      exact ⟨_, wp, vg, gn, gr, rfl, FIN.out _ _ _ _ _ HM⟩
   ·refine dOp_make rfl rfl n (by have hmk := HMK.out; go_simp) (fun gr w' hg hw' => ?_)
    replace HM := hidden (HM.out.row2)
    rw [← hg, ← hw'] at HM
    clear hg hw'
    refine wpB_one ?_
    ·refine dOp_call1 rfl rfl 46 #[.pointer (some ⟨bb, 0, none⟩)] (by go_simp) ((HV.out _ HM.out.bel).mono ?_)
     rintro e w' ⟨rfl, rfl⟩
     refine ⟨_, rfl, trivial, ?_⟩
     refine wpB_one ?_
     ·refine dOp_call1 rfl rfl 45 #[.int .i64 nn, .slice ia il ic] (by go_simp) ((HN.out _).mono ?_)
      rintro e w' ⟨wp, vg, rfl, q1, q2, q3, q4, q5⟩
      replace HM := hidden (HM.out.world q1 q3 q4 q5)
      clear q1 q2 q3 q4 q5
      refine ⟨_, rfl, trivial, ?_⟩
      refine wpB_fin ?_
      intro w'' hw''
      rw [show w'' = _ from hw'']
      simp only [List.drop_succ_cons, List.drop_zero]
      go_wp2_with fail
      go_meet
      exact ⟨_, wp, vg, gn, gr, rfl, FIN.out _ _ _ _ _ HM⟩
  ·refine dOp_make rfl rfl n (by have hmk := HMK.out; go_simp) (fun gr w' hg hw' => ?_)
   replace HM := hidden (HM.out.row2)
   rw [← hg, ← hw'] at HM
   clear hg hw'
   refine wpB_two ?_ ?_
   ·refine dOp_call1 rfl rfl 46 #[.pointer (some ⟨bb, 0, none⟩)] (by go_simp) ((HV.out _ HM.out.bel).mono ?_)
    rintro e w' ⟨rfl, rfl⟩
    refine ⟨_, rfl, trivial, ?_⟩
    refine wpB_two ?_ ?_
    ·refine dOp_call1 rfl rfl 45 #[.int .i64 nn, .slice ia il ic] (by go_simp) ((HN.out _).mono ?_)
     rintro e w' ⟨wp, vg, rfl, q1, q2, q3, q4, q5⟩
     replace HM := hidden (HM.out.world q1 q3 q4 q5)
     clear q1 q2 q3 q4 q5
     refine ⟨_, rfl, trivial, ?_⟩
     refine wpB_one ?_
     ·refine dOp_make rfl rfl n (by have hmk := HMK.out; go_simp) (fun gn w' hg hw' => ?_)
      replace HM := hidden (HM.out.row1)
      rw [← hg, ← hw'] at HM
      clear hg hw'
      refine wpB_fin ?_
      intro w'' hw''
      rw [show w'' = _ from hw'']
      simp only [List.drop_succ_cons, List.drop_zero]
      go_wp2_with fail
      go_meet
      exact ⟨_, wp, vg, gn, gr, rfl, FIN.out _ _ _ _ _ HM⟩
    ·refine dOp_make rfl rfl n (by have hmk := HMK.out; go_simp) (fun gn w' hg hw' => ?_)
     replace HM := hidden (HM.out.row1)
     rw [← hg, ← hw'] at HM
     clear hg hw'
     refine wpB_one ?_
     ·refine dOp_call1 rfl rfl 45 #[.int .i64 nn, .slice ia il ic] (by go_simp) ((HN.out _).mono ?_)
      rintro e w' ⟨wp, vg, rfl, q1, q2, q3, q4, q5⟩
      replace HM := hidden (HM.out.world q1 q3 q4 q5)
      clear q1 q2 q3 q4 q5
      refine ⟨_, rfl, trivial, ?_⟩
      refine wpB_fin ?_
      intro w'' hw''
      rw [show w'' = _ from hw'']
      simp only [List.drop_succ_cons, List.drop_zero]
      go_wp2_with fail
      go_meet
      exact ⟨_, wp, vg, gn, gr, rfl, FIN.out _ _ _ _ _ HM⟩
   ·refine dOp_make rfl rfl n (by have hmk := HMK.out; go_simp) (fun gn w' hg hw' => ?_)
    replace HM := hidden (HM.out.row1)
    rw [← hg, ← hw'] at HM
    clear hg hw'
    refine wpB_one ?_
    ·refine dOp_call1 rfl rfl 46 #[.pointer (some ⟨bb, 0, none⟩)] (by go_simp) ((HV.out _ HM.out.bel).mono ?_)
     rintro e w' ⟨rfl, rfl⟩
     refine ⟨_, rfl, trivial, ?_⟩
     refine wpB_one ?_
     ·refine dOp_call1 rfl rfl 45 #[.int .i64 nn, .slice ia il ic] (by go_simp) ((HN.out _).mono ?_)
      rintro e w' ⟨wp, vg, rfl, q1, q2, q3, q4, q5⟩
      replace HM := hidden (HM.out.world q1 q3 q4 q5)
      clear q1 q2 q3 q4 q5
      refine ⟨_, rfl, trivial, ?_⟩
      refine wpB_fin ?_
      intro w'' hw''
      rw [show w'' = _ from hw'']
      simp only [List.drop_succ_cons, List.drop_zero]
      go_wp2_with fail
      go_meet
      exact ⟨_, wp, vg, gn, gr, rfl, FIN.out _ _ _ _ _ HM⟩
 case rest =>
  obtain ⟨tb, wp, vg, gn, gr, rfl, HC⟩ := hcut
  obtain ⟨u, hu⟩ : ∃ u : MW, u = ⟨List.replicate nn 0, [], ins⟩ := ⟨_, rfl⟩
  obtain ⟨sx, hsx⟩ : ∃ sx : SX, sx = ⟨wp, cv, .slice (some ⟨vg, 0, none⟩) nn nn, .slice none 0 0, .slice ia il ic⟩ := ⟨_, rfl⟩
  have hca := codeAt_of HH.out hcl
  have hc8 := HI.out.c
  have ht4 := HI.out.t1
  have hTB0 : TB w.heap.size wc tb gn gr n sx code u [] (tsOf es l) (rankP ls) [] := by
   obtain ⟨c1, c2, c3⟩ := HC.out
   obtain ⟨d1, d2, d3⟩ := c2.wld wp vg rfl
   obtain ⟨e1, e2⟩ := c2.r1 gn rfl
   obtain ⟨f1, f2⟩ := c2.r2 gr rfl
   subst hsx hu
   refine ⟨⟨⟨d2, d3, row0 _ _ _ _, HJ.out.below c2.bel, hca.below c2.bel, (fun k hk h => by simp [Value.ownBlock] at h), d1, by simp, (show ins.length ≤ 20000000000000 by omega), (by simp; omega), by omega⟩, (fun i a h => by simp at h), (fun i k a b h => by simp at h), (fun i a h => by simp at h)⟩, c3, ⟨_, e2, fun i jb h => by simp at h⟩, ⟨_, f2, fun i jb h => by simp at h⟩, (fun i jb h => by simp at h), (fun i k jb h => by simp at h), c1, ⟨e1, f1⟩, c2.ne gn gr rfl rfl, rfl, rfl⟩
  have HTB0 := hidden hTB0
  have HB0 := hidden HC.out.2.1.bel
  have HSX := hidden hsx; have HU := hidden hu; have HCA := hidden hca
  clear hTB0 hsx hu hca HC HV HN HMK
  go_wp2_with fail
  go_loopw [29] (fun k wr => ∃ (q : Nat) (jbs : List Nat) (js : List (JX × MS)), q ≤ n ∧ k = .int .i64 q ∧ jbs.length = q ∧ Hid (TB w.heap.size wr tb gn gr n sx code u jbs (tsOf es l) (rankP ls) js) ∧ Hid (Below w.heap.size w wr)) (fun k _ => n - (intOf k).toNat)
  case atStart => exact ⟨0, [], [], Nat.zero_le _, rfl, rfl, HTB0, HB0⟩
  case round =>
   clear HTB0 HB0
   obtain ⟨q, jbs, js, hq, rfl, hjl, HQ, HBQ⟩ := hrel
   by_cases hlt : q < n
   ·have hqi : (q : Int) < (n : Int) := by omega
    have hkl : q < l.length := by rw [← HNN.out]; exact hlt
    obtain ⟨t, ht⟩ : ∃ t, t = l[q] := ⟨_, rfl⟩
    have htl : t ∈ l := by rw [ht]; exact List.getElem_mem hkl
    have hcell : ∀ j u, t.cells[j]? = some u → wr.cell? ⟨tg, q * 4 + j, none⟩ = some u := fun j u hj => by
     rw [HBQ.out.cell (p := ⟨tg, q * 4 + j, none⟩) htg]
     refine HTT.out _ _ ?_
     have hj4 : j < 4 := by have := (List.getElem?_eq_some_iff.1 hj).1; simpa [TK.cells] using this
     rw [flat_get TK.cells 4 (fun _ => rfl) l q j hkl hj4, ← ht]; exact hj
    have q0 : wr.cell? ⟨tg, q * 4, none⟩ = some (.string t.word) := hcell 0 _ rfl
    have q1 : wr.cell? ⟨tg, q * 4 + 1, none⟩ = some (.int .i64 t.per) := hcell 1 _ rfl
    have q2 : wr.cell? ⟨tg, q * 4 + 2, none⟩ = some (.int .i64 t.dl) := hcell 2 _ rfl
    have q3 : wr.cell? ⟨tg, q * 4 + 3, none⟩ = some (.int .i64 t.off) := hcell 3 _ rfl
    have htgr : tg < wr.heap.size := Nat.lt_of_lt_of_le htg HBQ.out.size
    obtain ⟨X, hX⟩ : ∃ X : World, X = wr.alloc (.cells #[.string t.word, .int .i64 t.per, .int .i64 t.dl, .int .i64 t.off] 67 (0, 0)) := ⟨_, rfl⟩
    obtain ⟨kb, hkb⟩ : ∃ kb, kb = wr.heap.size := ⟨_, rfl⟩
    have hbX : Below wr.heap.size wr X := by rw [hX]; exact (Below.refl _ _).alloc (Nat.le_refl _) _
    have hkX : Blk X kb #[.string t.word, .int .i64 t.per, .int .i64 t.dl, .int .i64 t.off] 67 := by rw [hX, hkb]; exact blk_new wr _ _
    have HTX := hidden (HQ.out.below hbX)
    have HBX := hidden (HBQ.out.trans (hbX.mono HBQ.out.size))
    obtain ⟨p, hp1, hp2⟩ := HST.out t htl
    have hS := book_Start t.word (HH.out.below HBX.out) (by have := HI.out.l; omega)
    have hre : startRes (lastP es t.word es.length) = .tuple #[.int .i64 p, .int .i64 0] := by
     cases hL : lastP es t.word es.length with
     | none => rw [hL] at hp1; cases hp1
     | some e =>
      rw [hL] at hp1
      unfold startOf at hp1
      by_cases hv : e.var = true
      ·simp [hv] at hp1
      ·simp [hv] at hp1; simp [startRes, hv, hp1]
    rw [hre] at hS
    have z0 : X.cell? ⟨kb, 0, none⟩ = some (.string t.word) := hkX.cell 0 _ rfl
    have hkl2 := hkX.lt
    have HS := hidden hS; have HKX := hidden hkX; have HX := hidden hX; have HKB := hidden hkb; have HT := hidden ht; have HP1 := hidden hp1
    clear hcell hX hkb hbX hkX hS hre ht htl hp1 HQ HBQ
    go_upto_region 5 with fail
    rw [← HX.out, ← HKB.out]
    clear q0 q1 q2 q3 htgr
    go_wp2_with fail
    refine HS.out.mono ?_
    rintro e w2 ⟨rfl, hb2⟩
    have HT2 := hidden (HTX.out.below hb2)
    have HB2 := hidden (HBX.out.trans (hb2.mono HBX.out.size))
    have hk2 := HKX.out.sub hb2 HKX.out.lt
    have HK2 := hidden hk2
    have hsz2 : kb < w2.heap.size := hk2.lt
    have htb2 : tb < w2.heap.size := HT2.out.blk.lt
    have hwp : sx.wp = wp := by rw [HSX.out]
    have b0 : w2.cell? ⟨tb, 0, none⟩ = some (.pointer (some ⟨wp, 0, none⟩)) := by rw [← hwp]; exact HT2.out.blk.cell 0 _ rfl
    have k0 : ∀ u : {w' : World // Below w2.heap.size w2 w'}, u.val.cell? ⟨tb, 0, none⟩ = some (.pointer (some ⟨wp, 0, none⟩)) := fun u => (u.property.cell (p := ⟨tb, 0, none⟩) htb2).trans b0
    have k1 : ∀ u : {w' : World // Below w2.heap.size w2 w'}, u.val.cell? ⟨kb, 0, none⟩ = some (.string t.word) := fun u => (u.property.cell (p := ⟨kb, 0, none⟩) hsz2).trans (hk2.cell 0 _ rfl)
    have k2 : ∀ u : {w' : World // Below w2.heap.size w2 w'}, u.val.cell? ⟨kb, 1, none⟩ = some (.int .i64 t.per) := fun u => (u.property.cell (p := ⟨kb, 1, none⟩) hsz2).trans (hk2.cell 1 _ rfl)
    have k3 : ∀ u : {w' : World // Below w2.heap.size w2 w'}, u.val.cell? ⟨kb, 2, none⟩ = some (.int .i64 t.dl) := fun u => (u.property.cell (p := ⟨kb, 2, none⟩) hsz2).trans (hk2.cell 2 _ rfl)
    have k4 : ∀ u : {w' : World // Below w2.heap.size w2 w'}, u.val.cell? ⟨kb, 3, none⟩ = some (.int .i64 t.off) := fun u => (u.property.cell (p := ⟨kb, 3, none⟩) hsz2).trans (hk2.cell 3 _ rfl)
    have hne : Nonempty {w' : World // Below w2.heap.size w2 w'} := ⟨⟨w2, Below.refl _ _⟩⟩
    have HCD := hidden (fun w' (hb : Below w.heap.size w w') => book_Code (HH.out.below (w' := w') hb))
    have hcsh : ∃ g m c, cv = .slice (some ⟨g, 0, none⟩) m c := by obtain ⟨g, c, h, _⟩ := HCA.out; exact ⟨_, _, _, h⟩
    obtain ⟨rg, rn, rc, hcv⟩ := hcsh
    have HNEW : Hid (∀ w', Below w2.heap.size w2 w' → Calls Tryz.prog 47 #[cv, .int .i64 p, .slice none 0 0, .pointer (some ⟨wp, 0, none⟩)] w' fun e w3 => ∃ mb, e = .returned (.pointer (some ⟨mb, 0, none⟩)) ∧ w'.heap.size ≤ mb ∧ RAt w.heap.size w3 ((JX.mk mb p (.slice none 0 0) (.slice none 0 0)).rx sx) code (beginM p) u ∧ Below w'.heap.size w' w3) := hidden fun w' hb => by
     have hW := (HT2.out.below hb).fam.wld
     rw [HSX.out, HU.out] at hW ⊢
     exact mach_new (B := w.heap.size) (st := p) [] hW.cod (by omega) (by omega) (Nat.zero_le _) (insAt_none _ _) (Nat.le_trans HB2.out.size hb.size) hW.wblk hW.bw hW.vrow hW.ins (by simp; omega) (show ins.length ≤ 20000000000000 by omega)
    subst hcv
    clear hb2 hk2 HTX HBX HS HKX z0 hkl2 HX HKB b0
    go_upto_region 6 with fail
    refine wp_region_order (C := OneOf fun w' => Below w2.heap.size w2 w') 10 [0, 2, 3, 4, 5, 6, 8, 9, 1, 7] [1, 7] ⟨w2.drew, (Below.refl _ w2).drew⟩ (by kernel_rfl) (by kernel_rfl) rfl ?_
    iterate 8 (refine wpT_step rfl rfl (fun K hK => ?_); go_simp; refine hK _ ?_; clear hK K)
    refine wpT_call1 rfl rfl 48 #[.pointer (some ⟨bb, 0, none⟩)] (by go_simp) ((HCD.out _ (HB2.out.trans ((Below.refl _ w2).drew.mono HB2.out.size))).mono ?_)
    rintro e w' ⟨rfl, rfl⟩
    refine ⟨_, rfl, (Below.refl _ w2).drew, ?_⟩
    refine wpT_call1 rfl rfl 47 #[.slice (some ⟨rg, 0, none⟩) rn rc, .int .i64 p, .slice none 0 0, .pointer (some ⟨wp, 0, none⟩)] (by go_simp) ((HNEW.out _ (Below.refl _ w2).drew).mono ?_)
    rintro e w3 ⟨mb, rfl, hmb, hra, hb3⟩
    have hb23 : Below w2.heap.size w2 w3 := (Below.refl _ w2).drew.trans hb3
    refine ⟨_, rfl, hb23, wpT_end ?_⟩
    intro w' hw'
    rw [show w' = w3 from hw']
    clear hw' w'
    simp only [List.drop_succ_cons, List.drop_zero]
    go_upto_region 7 with fail
    obtain ⟨Y, hY⟩ : ∃ Y : World, Y = w3.alloc (.cells #[.pointer (some ⟨mb, 0, none⟩), .string t.word, .int .i64 t.per, .int .i64 t.dl, .int .i64 t.off, .int .i64 q, .bool false] 170 (0, 0)) := ⟨_, rfl⟩
    obtain ⟨jb, hjb⟩ : ∃ jb, jb = w3.heap.size := ⟨_, rfl⟩
    rw [← hY, ← hjb]
    have hb3Y : Below w3.heap.size w3 Y := by rw [hY]; exact (Below.refl _ _).alloc (Nat.le_refl _) _
    have hb2Y : Below w2.heap.size w2 Y := hb23.trans (hb3Y.mono hb23.size)
    have hkY : Blk Y jb (jobC mb ⟨t.word, t.per, t.dl, t.off, p⟩ q false) 170 := by rw [hY, hjb]; exact blk_new w3 _ _
    have hTY := HT2.out.below hb2Y
    have hf3 := HT2.out.fam.add (a := (⟨mb, p, .slice none 0 0, .slice none 0 0⟩, beginM p)) hb23 hra (fun b hb => by
     rcases hb with e | e | e
     ·rw [e]; exact hmb
     ·simp [Value.ownBlock] at e
     ·simp [Value.ownBlock] at e)
    have hfY := hf3.chg (S := fun _ => False) (Chg.ofBelow hb3Y) (fun _ _ => id) (fun _ e => e.elim)
    have htsq : (tsOf es l)[jbs.length]? = some ⟨t.word, t.per, t.dl, t.off, p⟩ := by
     unfold tsOf
     rw [hjl, List.getElem?_map, List.getElem?_eq_getElem hkl, ← HT.out]
     simp only [Option.map_some, HP1.out, Option.getD_some, Int.toNat_natCast]
    have hadd := HT2.out.add hb2Y hfY htsq (by rw [hjl]; exact hkY) (by rw [hjb]; exact hb23.size) ⟨rfl, by show p ≤ code.length; omega⟩ rfl (fun i hi e => by
     have := rank_inj (ls := ls) (by rw [HLS.out]; omega) (by rw [HLS.out]; omega) e
     omega)
    rw [hjl] at hadd
    obtain ⟨r, hr⟩ : ∃ r, r = rankP ls q := ⟨_, rfl⟩
    have hrn : r < n := by rw [hr, ← HLS.out]; exact rank_lt (by rw [HLS.out]; exact hlt)
    rw [← hr] at hadd
    obtain ⟨f, f1, f2⟩ := hTY.nrow
    obtain ⟨g, g1, g2⟩ := hTY.rrow
    have c1 : Y.cell? ⟨tb, 1, none⟩ = some (.slice (some ⟨gn, 0, none⟩) n n) := hTY.blk.cell 1 _ rfl
    have m1 : Y.cell? ⟨gn, q, none⟩ = some (f q) := f1.cell hlt
    have m2 := f1.frozen q
    have hgl := f1.lt
    have hrl := g1.lt
    have htbY := hTY.blk.lt
    have hpgY : Y.cell? ⟨pg, q * 3 + 1, none⟩ = some (.int .i64 r) := by
     have hb := HB2.out.trans (hb2Y.mono HB2.out.size)
     rw [hb.cell (p := ⟨pg, q * 3 + 1, none⟩) hpg, hr]
     exact HPP.out q hlt
    have hgnB := hTY.bg.1
    have hgrB := hTY.bg.2
    have hgne := hTY.gne
    have htn : tb ≠ gn := fun e => by
     have := (ty_blk hTY.blk).uniq (by rw [e]; exact ty_row f1)
     exact absurd this (by decide)
    obtain ⟨Z, hZ⟩ : ∃ Z : World, Z = Y.setCell ⟨gn, q, none⟩ (.pointer (some ⟨jb, 0, none⟩)) := ⟨_, rfl⟩
    have c2 : Z.cell? ⟨tb, 2, none⟩ = some (.slice (some ⟨gr, 0, none⟩) n n) := by
     have hc : Chg (fun b => b = gn) Y Z := by rw [hZ]; exact (Chg.refl (fun b => b = gn) Y).setCell (p := ⟨gn, q, none⟩) rfl _
     exact (hTY.blk.chg hc htn).cell 2 _ rfl
    have hg1 : Z.rowIs gr 168 n g := by rw [hZ]; exact g1.setOther (fun e => hgne e.symm) _
    have d1 : Z.cell? ⟨gr, r, none⟩ = some (g r) := hg1.cell hrn
    have d2 := hg1.frozen r
    have p1 : Z.cell? ⟨pg, q * 3 + 1, none⟩ = some (.int .i64 r) := by
     have hc : Chg (fun b => b = gn) Y Z := by rw [hZ]; exact (Chg.refl (fun b => b = gn) Y).setCell (p := ⟨gn, q, none⟩) rfl _
     rw [hc.cell (p := ⟨pg, q * 3 + 1, none⟩) (show pg < Y.heap.size by have := hb2Y.size; have := HB2.out.size; omega) (fun e => by have : pg = gn := e; omega)]
     exact hpgY
    have HADD := hidden hadd; have HZ := hidden hZ; have HBY := hidden (HB2.out.trans (hb2Y.mono HB2.out.size))
    have hrl2 := hg1.lt
    have htbZ : tb < Z.heap.size := by rw [hZ]; simpa using htbY
    have hpgZ : pg < Z.heap.size := by have := hb2Y.size; have := HB2.out.size; rw [hZ]; simp; omega
    clear hadd hZ hY hjb hb3Y hb2Y hkY hTY hf3 hfY htsq f2 g1 g2 f1 hg1 hra hb3 hb23 HT2 HB2 HNEW HCD k0 k1 k2 k3 k4 hne HK2 hr
    generalize f q = v1 at m1
    generalize g r = v2 at d1
    go_upto_region 8 with fail
    rw [← HZ.out]
    go_still_tail 11, (by kernel_rfl)
    go_wp2_with fail
    go_roundw
    case rel => exact ⟨q + 1, jbs ++ [jb], _, by omega, by go_num, by rw [List.length_append, List.length_singleton, hjl], hidden (by rw [HZ.out]; exact HADD.out.below (Below.refl _ _).drew), hidden (HBY.out.trans (by
     rw [HZ.out]
     exact ((((Chg.refl (fun b => b = gn ∨ b = gr) Y).setCell (p := ⟨gn, q, none⟩) (Or.inl rfl) _).setCell (p := ⟨gr, r, none⟩) (Or.inr rfl) _).drew).toBelow HBY.out.size (fun b hb e => by rcases e with e | e <;> omega)))⟩
    case measure => simp [intOf]; omega
   ·obtain rfl : q = n := by omega
    have hji : ¬ (q : Int) < (q : Int) := by omega
    go_wp2_with fail
    refine bodyPost_ret (v := .pointer (some ⟨tb, 0, none⟩)) (by simp [results, Tryz.results57, go_sem]) rfl ?_
    have hfin := HQ.out.all (ls := ls) hjl HLS.out h8 (by unfold tsOf; rw [List.length_map]; exact HNN.out.symm)
    rw [HU.out, HNN.out] at hfin
    exact (show NewPost _ _ _ _ _ _ _ _ _ _ from ⟨tb, gn, gr, sx, jbs, js, rfl, hfin.1, by rw [hjl]; exact HNN.out, hfin.2, HBQ.out⟩)
end Go.Proofs.YtcphhbofjkenaaaGreatDoor
namespace Go.Proofs.YtcphhbofjkenaaaGreatDoor
set_option maxRecDepth 100000
set_option maxHeartbeats 16000000
open Go Go.RowKit
set_option linter.unusedVariables false
set_option linter.unusedSimpArgs false
def simC (ws : List RW) (l : List TK) (ins : List Int) (h : Int) : Int × Nat := if 0 ≤ h ∧ h ≤ 100000 ∧ areC ins = true then admitT ws l else (1, 0)
def simB (es : List PE) (nn : Nat) (l : List TK) (ins : List Int) : PS := ⟨(tsOf es l).map (fun t => beginM t.st), List.replicate l.length false, ⟨List.replicate nn 0, [], ins⟩, []⟩
def simS (es : List PE) (code : List Int) (ws : List RW) (nn : Nat) (l : List TK) (ins : List Int) (h : Nat) : PS := simP code (tsOf es l) (rksP (loadsT ws l)) l.length h (simB es nn l ins)
def SimuPost (w : World) (es : List PE) (code : List Int) (ws : List RW) (nn : Nat) (l : List TK) (ins : List Int) (h : Int) (e : Ending) (w' : World) : Prop :=
 (∃ va vn vc, e = .returned (.tuple #[.slice va vn vc, .int .i64 (simC ws l ins h).1, .int .i64 (simC ws l ins h).2]) ∧ ((simC ws l ins h).1 ≠ 0 → va = none ∧ vn = 0 ∧ vc = 0) ∧ ((simC ws l ins h).1 = 0 → ERow w.heap.size w' (.slice va vn vc) (simS es code ws nn l ins h.toNat).es)) ∧ Below w.heap.size w w'
theorem SimuPost.err {w w' : World} {es : List PE} {code : List Int} {ws : List RW} {nn : Nat} {l : List TK} {ins : List Int} {h : Int} {e : Ending} {E : Int} {K : Nat} (hs : simC ws l ins h = (E, K)) (h0 : E ≠ 0) (he : e = .returned (.tuple #[.slice none 0 0, .int .i64 E, .int .i64 K])) (hb : Below w.heap.size w w') : SimuPost w es code ws nn l ins h e w' := by
 refine ⟨⟨none, 0, 0, ?_, fun _ => ⟨rfl, rfl, rfl⟩, fun e => ?_⟩, hb⟩
 ·rw [hs]; exact he
 ·rw [hs] at e; exact absurd e h0
theorem scanW_ne {ws : List RW} : ∀ {l : List TK} {k : Nat} {E : Int} {j : Nat}, scanW ws l k = some (E, j) → E ≠ 0
 | [], _, _, _, h => by cases h
 | t :: r, k, E, j, h => by
  unfold scanW at h
  split at h
  ·rename_i hx
   injection h with h
   injection h with h1 h2
   rw [← h1]; exact hx
  ·exact scanW_ne h
theorem own_lower {B C : Nat} {w : World} {e : TypeId} {size n : Nat} {v : Value} {xs : List Value} (h : w.ownsRow B e size v n xs) (hb : C ≤ B) : w.ownsRow C e size v n xs := by
 refine ⟨h.1, ?_⟩
 rcases h.2 with h | ⟨g, cap, cur, h1, h2, h3⟩
 ·exact Or.inl h
 ·exact Or.inr ⟨g, cap, cur, h1, Nat.le_trans hb h2, h3⟩
theorem admit_ok {ws : List RW} {l : List TK} (h : (admitT ws l).1 = 0) : 0 < l.length ∧ l.length ≤ 8 ∧ (admitT ws l).2 = 0 ∧ (∀ t ∈ l, (findI ws t.word).2 = 0 ∧ t.Fits) := by
 unfold admitT at h ⊢
 by_cases h8 : l.length = 0 ∨ 8 < l.length
 ·rw [if_pos h8] at h; exact absurd h (by decide)
 ·rw [if_neg h8] at h ⊢
  cases hs : scanW ws l 0 with
  | some r =>
   exfalso
   obtain ⟨E, k⟩ := r
   rw [hs] at h
   simp only at h
   exact scanW_ne hs h
  | none =>
   rw [hs] at h
   simp only at h ⊢
   refine ⟨by omega, by omega, ?_, fun t ht => ?_⟩
   ·split at h
    ·simp at h
    ·rfl
   ·have := scanW_none hs t ht
    unfold wrongT at this
    split at this
    ·rename_i e; exact absurd this e
    ·rename_i e
     split at this
     ·exact absurd this (by decide)
     ·rename_i e2
      exact ⟨Classical.byContradiction e, Classical.byContradiction e2⟩
section
variable {es : List PE} {code : List Int} {ws : List RW} {nn : Nat} {l : List TK} {ins : List Int}
theorem ts_ok (hk : Alk es code ws) (h : (admitT ws l).1 = 0) : (∀ t ∈ l, ∃ p : Nat, startOf (lastP es t.word es.length) = some (p : Int) ∧ p < code.length) ∧ (∀ t ∈ tsOf es l, TOk es code t ∧ TFit t) := by
 have key : ∀ t ∈ l, ∃ (p q : Nat) (y : RW), startOf (lastP es t.word es.length) = some (p : Int) ∧ p < code.length ∧ CList es code false y.its p q ∧ code[q]? = some 34 := fun t ht => by
  obtain ⟨_, _, _, ha⟩ := admit_ok h
  rcases start_both hk.coded hk.toAlike t.word with ⟨_, e2⟩ | ⟨k, p, q, y, e1, e2, e3, e4, e5, e6, e7, e8⟩
  ·have := (ha t ht).1; omega
  ·exact ⟨p, q, y, e4, e6, e7, e8⟩
 refine ⟨fun t ht => ?_, fun t ht => ?_⟩
 ·obtain ⟨p, q, y, a, b, _⟩ := key t ht
  exact ⟨p, a, b⟩
 ·obtain ⟨t0, ht0, rfl⟩ := List.mem_map.1 ht
  obtain ⟨p, q, y, a, b, c, d⟩ := key t0 ht0
  obtain ⟨_, _, _, ha⟩ := admit_ok h
  obtain ⟨_, f1, f2, f3, f4, f5, f6⟩ := ha t0 ht0
  refine ⟨⟨y, q, ?_, d, ?_⟩, f1, f2, f5, f6⟩
  ·simp only [a, Option.getD_some, Int.toNat_natCast]; exact c
  ·simp only [a, Option.getD_some, Int.toNat_natCast]; exact b
theorem simI_begin (hc : areC ins = true) : SimI es code l.length nn 0 0 (simB es nn l ins) := by
 refine ⟨by simp [simB, tsOf], by simp [simB], rfl, by simp [simB], fun a ha => ?_, areC_cell hc, Nat.le_refl _, fun i m hm hb => ?_⟩
 ·rw [(List.mem_replicate.1 ha).2]; exact ⟨by omega, by omega⟩
 ·simp only [simB, List.getD_eq_getElem?_getD, List.getElem?_replicate] at hb
  split at hb <;> simp at hb
end
theorem rates_simulate {w : World} {bb : Nat} {ev cv : Value} {es : List PE} {nv nt : Int} {code : List Int} {ws : List RW} {ins : List Int} {iv : Value} (l : List TK) (ta : Option Addr) (n tc : Nat) (h : Int) (hs : PSys w bb ev cv es nv nt code) (hi : LInv es nv nt code) (hk : Alk es code ws) (ht : Tab w)
  (hn : n = l.length) (hnc : n ≤ tc) (hnb : n ≤ 1100000) (hc : n = 0 ∨ ∃ tg, ta = some ⟨tg, 0, none⟩ ∧ tg < w.heap.size ∧ ∀ (j : Nat) (u : Value), (l.flatMap TK.cells)[j]? = some u → w.cell? ⟨tg, j, none⟩ = some u)
  (hj : InsAt w.heap.size w iv ins) (hil : ins.length ≤ 17592186043904) :
  Calls Tryz.prog 29 #[.pointer (some ⟨bb, 0, none⟩), .slice ta n tc, iv, .int .i64 h] w (SimuPost w es code ws nv.toNat l ins h) := by
 have HA := hidden (mach_areCells hj (Nat.le_refl _) hil)
 have HAD := hidden (rates_admit l ta n tc hs (by have := hi.l; omega) hk.toAlike hn hnc hnb hc)
 obtain ⟨ia, ic, hiv⟩ := insAt_len hj
 have HJ := hidden hj; have HS := hidden hs; have HI := hidden hi; have HK := hidden hk; have HT := hidden ht; have HN := hidden hn; have HC := hidden hc
 have HIV := hidden hiv
 clear hj hs hi hk ht hn hc
 obtain ⟨il, hile⟩ : ∃ il, il = ins.length := ⟨_, rfl⟩
 rw [← hile] at hiv
 have HILE := hidden (show ins.length ≤ 17592186043904 from hil)
 clear hile hil
 subst hiv
 by_cases h0 : h < 0
 ·have HE : Hid (simC ws l ins h = (1, 0)) := hidden (by unfold simC; rw [if_neg (by omega)])
  clear HA HAD HJ HS HI HK HT HN HC HIV
  go_enter Tryz.func29, Tryz.ntmps29
  go_wp2_with fail
  exact bodyPost_ret (v := .tuple #[.slice none 0 0, .int .i64 1, .int .i64 0]) (by simp [results, Tryz.results29, go_sem]) rfl (SimuPost.err HE.out (by decide) rfl (Below.refl _ _))
 by_cases h1 : 100000 < h
 ·have HE : Hid (simC ws l ins h = (1, 0)) := hidden (by unfold simC; rw [if_neg (by omega)])
  clear HA HAD HJ HS HI HK HT HN HC HIV
  go_enter Tryz.func29, Tryz.ntmps29
  go_wp2_with fail
  exact bodyPost_ret (v := .tuple #[.slice none 0 0, .int .i64 1, .int .i64 0]) (by simp [results, Tryz.results29, go_sem]) rfl (SimuPost.err HE.out (by decide) rfl (Below.refl _ _))
 obtain ⟨A, hA⟩ : ∃ A, A = areC ins := ⟨_, rfl⟩
 rw [← hA] at HA
 have HAA := hidden hA
 clear hA
 go_enter Tryz.func29, Tryz.ntmps29
 go_wp2_with fail
 refine HA.out.mono ?_
 rintro e w' ⟨rfl, rfl⟩
 clear HA
 cases A
 ·have HE : Hid (simC ws l ins h = (1, 0)) := hidden (by unfold simC; rw [if_neg (by rw [← HAA.out]; simp)])
  go_wp2_with fail
  exact bodyPost_ret (v := .tuple #[.slice none 0 0, .int .i64 1, .int .i64 0]) (by simp [results, Tryz.results29, go_sem]) rfl (SimuPost.err HE.out (by decide) rfl (Below.refl _ _))
 have HSC : Hid (simC ws l ins h = admitT ws l) := hidden (by unfold simC; rw [if_pos ⟨by omega, by omega, HAA.out.symm⟩])
 go_wp2_with fail
 refine HAD.out.mono ?_
 rintro e w2 ⟨⟨pa, pn, pc, rfl, herr, hok⟩, hb2⟩
 obtain ⟨E, hE⟩ : ∃ E, E = (admitT ws l).1 := ⟨_, rfl⟩
 obtain ⟨K, hK⟩ : ∃ K, K = (admitT ws l).2 := ⟨_, rfl⟩
 rw [← hE] at herr hok
 rw [← hE, ← hK]
 by_cases hE0 : E = 0
 case neg =>
  obtain ⟨rfl, rfl, rfl⟩ := herr hE0
  have hx : (E != 0) = true := by simpa using hE0
  have HE : Hid (simC ws l ins h = (E, K)) := hidden (by rw [HSC.out, hE, hK])
  have HB2 := hidden hb2; have HE0 := hidden hE0
  clear herr hok hE hK hb2 hE0 HAD HJ HS HI HK HT HN HC HIV
  go_wp2_with fail
  exact bodyPost_ret (v := .tuple #[.slice none 0 0, .int .i64 E, .int .i64 K]) (by simp [results, Tryz.results29, go_sem]) rfl (SimuPost.err HE.out HE0.out rfl HB2.out)
 case pos =>
  subst hE0
  obtain ⟨o1, o2, o3, o4⟩ := hok rfl
  obtain ⟨d1, d2, d3, d4⟩ := admit_ok hE.symm
  have hK0 : K = 0 := by rw [hK]; exact d3
  subst hK0
  obtain ⟨t1, t2⟩ := ts_ok HK.out hE.symm
  have hnl := HN.out
  have hn0 : n ≠ 0 := by omega
  rcases HC.out with hc | ⟨tg, rfl, htg, htc⟩
  ·exact absurd hc hn0
  have hcl : 0 < code.length := by
   obtain ⟨t, ht⟩ : ∃ t, t ∈ l := by
    cases l with
    | nil => simp at d1
    | cons t r => exact ⟨t, List.mem_cons_self⟩
   obtain ⟨p, _, hp⟩ := t1 t ht
   omega
  obtain ⟨pg, pcap, hpv, _, hpg, hpn, _, hcc⟩ := row_cells o4 (by omega)
  simp only [Value.slice.injEq] at hpv
  obtain ⟨rfl, _, rfl⟩ := hpv
  obtain rfl : pn = n := by omega
  have HNT := hidden (rates_newTurns (ls := loadsT ws l) (tg := tg) (pg := pg) (HS.out.below hb2) HI.out hcl hnl o3 rfl (Nat.lt_of_lt_of_le htg hb2.size) hnc (fun j u hj => (hb2.cell (p := ⟨tg, j, none⟩) htg).trans (htc j u hj)) rfl hpg hpn (fun k hk => by
   have := hcc (k * 3 + 1) (.int .i64 (rankP (loadsT ws l) k : Int)) (by rw [plans_get _ _ _ k 1 hk (by decide)]; rfl)
   exact this) (by unfold loadsT; rw [List.length_map]; exact hnl.symm) t1 ((HJ.out.below hb2).mono hb2.size) HILE.out)
  have HB2 := hidden hb2; have HTS := hidden t2; have HE := hidden hE; have HD3 := hidden d3
  have HT2 := hidden (HT.out.below hb2)
  clear herr hok o4 hcc hpn hpg d4 t1 t2 hE hb2 htc HC HS HJ HAD hK d3 o1 d1 d2 hnl
  go_wp2_with fail
  refine HNT.out.mono ?_
  rintro e w3 ⟨tb, gn, gr, sx, jbs, js, rfl, hT, hjl, hjs, hb3⟩
  have hnl := HN.out
  obtain ⟨H, rfl⟩ : ∃ H : Nat, h = H := ⟨h.toNat, by omega⟩
  obtain ⟨ts, hts⟩ : ∃ ts, ts = tsOf es l := ⟨_, rfl⟩
  obtain ⟨rk, hrk⟩ : ∃ rk, rk = rksP (loadsT ws l) := ⟨_, rfl⟩
  obtain ⟨p0, hp0⟩ : ∃ p0, p0 = simB es nv.toNat l ins := ⟨_, rfl⟩
  have hjn : jbs.length = pn := by omega
  have hI : ∀ k, SimI es code pn nv.toNat k (10 * k) (simP code ts rk pn k p0) := fun k => by
   rw [hts, hp0, hnl]
   exact SimI.sim HK.out.coded HK.out.toAlike (fun t ht => (HTS.out t ht).1) (by rw [← hnl]; exact o3) (simI_begin HAA.out.symm) k
  have hsa : SimAt w2.heap.size w3 tb gn gr code jbs ts rk p0 := by
   rw [hts, hrk, hp0]
   exact ⟨sx, .slice none 0 0, js, hjs, hT⟩
  have hfit : ∀ t ∈ ts, TFit t := fun t ht => (HTS.out t (by rw [← hts]; exact ht)).2
  have htok : ∀ t ∈ ts, TOk es code t := fun t ht => (HTS.out t (by rw [← hts]; exact ht)).1
  have HSI := hidden hI; have HSA := hidden hsa; have HFIT := hidden hfit; have HTOK := hidden htok; have HB3 := hidden hb3
  have HFIN : Hid (simS es code ws nv.toNat l ins H = simP code ts rk pn H p0) := hidden (by rw [hts, hrk, hp0, hnl]; rfl)
  have HG := hidden HT2.out.lt
  have HJN := hidden hjn
  clear hT hjs hI hsa hfit htok hb3 HNT hts hrk hp0 HTS hjl hjn hnl
  go_wp2_with fail
  go_loopw [44] (fun k wr => ∃ q : Nat, q ≤ H ∧ k = .int .i64 q ∧ Hid (SimAt w2.heap.size wr tb gn gr code jbs ts rk (simP code ts rk pn q p0)) ∧ Hid (Below w2.heap.size w2 wr)) (fun k _ => H - (intOf k).toNat)
  case atStart => exact ⟨0, Nat.zero_le _, rfl, HSA, HB3⟩
  case round =>
   clear HSA HB3
   obtain ⟨q, hq, rfl, HQ, HBQ⟩ := hrel
   by_cases hlt : q < H
   ·have hqi : (q : Int) < (H : Int) := by omega
    have hiq := HSI.out q
    have hir := hiq.rel (HTOK.out) (q : Int) pn 0 _ _
    have HRE := hidden (sim_release HQ.out (q : Int) HFIT.out (by omega) (by omega) (by have := hiq.le; omega))
    rw [HJN.out] at HRE
    obtain ⟨p1, hp1⟩ : ∃ p1, p1 = relP ts q pn 0 (simP code ts rk pn q p0) := ⟨_, rfl⟩
    rw [← hp1] at HRE hir
    have hnext : simP code ts rk pn (q + 1) p0 = turnP code rk pn q p1 := by rw [hp1]; rfl
    have HNX := hidden hnext; have HIR := hidden hir
    clear hiq hir hp1 hnext
    go_wp2_with fail
    refine HRE.out.mono ?_
    rintro e w4 ⟨rfl, hs4, hb4⟩
    have HB4 := hidden (HBQ.out.trans hb4)
    have HST := hidden (sim_step hs4 (HT2.out.below HB4.out) HG.out (q : Int) (by have := HIR.out.le; omega) (fun i m hm hb => HIR.out.ok HK.out.coded HK.out.toAlike (by omega) hm hb))
    rw [HJN.out, ← HNX.out] at HST
    clear hs4 hb4 HRE HQ HBQ
    go_wp2_with fail
    refine HST.out.mono ?_
    rintro e w5 ⟨rfl, hs5, hb5⟩
    have HB5 := hidden (HB4.out.trans hb5); have HS5 := hidden hs5
    clear hs5 hb5 HST HB4 HIR HNX
    go_wp2_with fail
    go_roundw
    case rel => exact ⟨q + 1, by omega, by go_num, HS5, HB5⟩
    case measure => simp [intOf]; omega
   ·obtain rfl : q = H := by omega
    have hji : ¬ (q : Int) < (q : Int) := by omega
    obtain ⟨s5, ev5, js5, _, hT5⟩ := HQ.out
    obtain ⟨va, vc, hev, _, _⟩ := row_shape hT5.erow
    obtain ⟨vn, hvn⟩ : ∃ vn, vn = (simP code ts rk pn q p0).es.length := ⟨_, rfl⟩
    rw [← hvn] at hev
    have c3 : wr.cell? ⟨tb, 3, none⟩ = some (.slice va vn vc) := by rw [← hev]; exact hT5.blk.cell 3 _ rfl
    have htb := hT5.blk.lt
    have hro := hT5.erow
    rw [hev] at hro
    have HRO := hidden hro
    have HSC0 : Hid (simC ws l ins q = (0, 0)) := hidden (by rw [HSC.out]; exact Prod.ext HE.out.symm HD3.out)
    clear hT5 hev hvn hro HQ
    go_wp2_with fail
    refine bodyPost_ret (v := .tuple #[.slice va vn vc, .int .i64 0, .int .i64 0]) (by simp [results, Tryz.results29, go_sem]) rfl ?_
    refine (show SimuPost _ _ _ _ _ _ _ _ _ _ from ⟨⟨va, vn, vc, ?_, fun e => ?_, fun _ => ?_⟩, HB2.out.trans (HBQ.out.mono HB2.out.size)⟩)
    ·rw [HSC0.out]; rfl
    ·rw [HSC0.out] at e; exact absurd rfl e
    ·rw [Int.toNat_natCast, HFIN.out]
     exact own_lower HRO.out HB2.out.size
section
variable {ws : List RW} {l : List TK}
theorem late_none {ls : List (Int × Int)} : ∀ {n k : Nat}, lateP ls l n k = none → ∀ j, k ≤ j → j < k + n → respAt ls l j ≠ 0
 | 0, _, _, j, a, b => by omega
 | n + 1, k, h, j, a, b => by
  unfold lateP at h
  split at h
  ·cases h
  ·rename_i h0
   rcases Nat.lt_or_ge k j with g | g
   ·exact late_none h j (by omega) (by omega)
   ·obtain rfl : j = k := by omega
    exact h0
theorem late_some {ls : List (Int × Int)} {q : Nat} : ∀ {n k : Nat}, lateP ls l n k = some q → k ≤ q ∧ q < k + n ∧ respAt ls l q = 0
 | 0, _, h => by cases h
 | n + 1, k, h => by
  unfold lateP at h
  split at h
  ·rename_i h0
   obtain rfl := Option.some.inj h
   exact ⟨Nat.le_refl _, by omega, h0⟩
  ·obtain ⟨a, b, c⟩ := late_some h
   exact ⟨by omega, by omega, c⟩
theorem admit_resp (h : (admitT ws l).1 = 0) : (∀ t ∈ l, wrongT ws t = 0) ∧ ∀ k, k < l.length → respAt (loadsT ws l) l k ≠ 0 := by
 unfold admitT at h
 by_cases h8 : l.length = 0 ∨ 8 < l.length
 ·rw [if_pos h8] at h; exact absurd h (by decide)
 ·rw [if_neg h8] at h
  cases hs : scanW ws l 0 with
  | some r =>
   obtain ⟨E, k⟩ := r
   rw [hs] at h
   exact absurd h (scanW_ne hs)
  | none =>
   rw [hs] at h
   simp only at h
   cases hl : lateP (loadsT ws l) l l.length 0 with
   | some k => rw [hl] at h; simp at h
   | none => exact ⟨fun t ht => scanW_none hs t ht, fun k hk => late_none hl k (Nat.zero_le _) (by omega)⟩
theorem resp_ok {ls : List (Int × Int)} {k : Nat} (h : respAt ls l k ≠ 0) : demandT ls k (respAt ls l k) = respAt ls l k ∧ respAt ls l k ≤ (l.getD k default).dl := respG_fix _ _ h
theorem respG_pos {D : Int → Int} {dl : Int} (hD : ∀ r, 1 ≤ r → r ≤ dl → 1 ≤ D r) : ∀ (f : Nat) (r : Int), 1 ≤ r → respG D dl f r ≠ 0 → 1 ≤ respG D dl f r
 | 0, r, _, h => absurd rfl h
 | f + 1, r, hr, h => by
  unfold respG at h ⊢
  split at h
  ·rename_i h1
   rw [if_pos h1]
   split at h
   ·rename_i h2
    rw [if_pos h2]; exact hr
   ·rename_i h2
    rw [if_neg h2]
    exact respG_pos hD f (D r) (hD r hr h1) h
  ·exact absurd rfl h
theorem resp_pos {ls : List (Int × Int)} {k : Nat} (hok : ∀ x ∈ ls, LdOk x) (h8 : ls.length ≤ 8) (hk : k < ls.length) (hd : (l.getD k default).dl ≤ 1000000) (h : respAt ls l k ≠ 0) : 1 ≤ respAt ls l k :=
 respG_pos (fun r h1 h2 => (demand_bd hok h8 hk (by omega) (by omega)).1) _ 1 (Int.le_refl _) h
theorem cost_resp {ls : List (Int × Int)} {k : Nat} (hok : ∀ x ∈ ls, LdOk x) (h8 : ls.length ≤ 8) (hk : k < ls.length) (hd : (l.getD k default).dl ≤ 1000000) (h : respAt ls l k ≠ 0) : costAt ls k ≤ respAt ls l k := by
 have h1 := resp_pos hok h8 hk hd h
 obtain ⟨r1, r2⟩ := resp_ok h
 have hw := (within_bd (ahead_ok hok k ls.length (Nat.le_refl _)) (r := respAt ls l k) (by omega) (by omega)).1
 unfold demandT at r1
 omega
theorem loads_at {k : Nat} (hk : k < l.length) : costAt (loadsT ws l) k = (findI ws (l.getD k default).word).1.steps ∧ perAt (loadsT ws l) k = (l.getD k default).per := by
 unfold costAt perAt loadsT
 simp [hk]
theorem goes_T (j i : Nat) (hj : j < l.length) (hi : i < l.length) : goesP (loadsT ws l) j i = goesT l j i := by
 unfold goesP goesT
 rw [(loads_at hj).2, (loads_at hi).2]
theorem first_none (ls : List (Int × Int)) (i : Nat) : ∀ n, (∀ j, j < n → goesP ls j i = false) ↔ aheadP ls i n = []
 | 0 => ⟨fun _ => rfl, fun _ j hj => by omega⟩
 | n + 1 => by
  rw [aheadP]
  constructor
  ·intro h
   rw [if_neg (by rw [h n (by omega)]; decide)]
   exact (first_none ls i n).1 fun j hj => h j (by omega)
  ·intro h j hj
   split at h
   ·simp at h
   ·rename_i hg
    rcases Nat.lt_or_ge j n with g | g
    ·exact (first_none ls i n).2 h j g
    ·obtain rfl : j = n := by omega
     simpa using hg
theorem firstT_iff (i : Nat) : ∀ f k, firstT l i f k = true ↔ ∀ j, k ≤ j → j < k + f → goesT l j i = false
 | 0, k => ⟨fun _ j a b => by omega, fun _ => rfl⟩
 | f + 1, k => by
  unfold firstT
  constructor
  ·intro h j a b
   split at h
   ·cases h
   ·rename_i hg
    rcases Nat.lt_or_ge k j with g | g
    ·exact (firstT_iff i f (k + 1)).1 h j (by omega) (by omega)
    ·obtain rfl : j = k := by omega
     simpa using hg
  ·intro h
   rw [if_neg (by rw [h k (Nat.le_refl _) (by omega)]; decide)]
   exact (firstT_iff i f (k + 1)).2 fun j a b => h j (by omega) (by omega)
theorem first_rank {i : Nat} (hi : i < l.length) : firstT l i l.length 0 = decide (rankP (loadsT ws l) i = 0) := by
 have hll : (loadsT ws l).length = l.length := by unfold loadsT; rw [List.length_map]
 rw [Bool.eq_iff_iff, decide_eq_true_eq, firstT_iff]
 unfold rankP
 rw [hll, List.length_eq_zero_iff, ← first_none]
 constructor
 ·intro h j hj
  rw [goes_T j i hj hi]
  exact h j (Nat.zero_le _) (by omega)
 ·intro h j _ hj
  rw [← goes_T (ws := ws) j i (by omega) hi]
  exact h j (by omega)
end
section
variable {es : List PE} {code : List Int} {ws : List RW} {l : List TK} {nn : Nat} {ins : List Int}
def spOf (es : List PE) (code : List Int) (ws : List RW) (nn : Nat) (l : List TK) (ins : List Int) : SP := ⟨code, tsOf es l, rksP (loadsT ws l), l.length, simB es nn l ins⟩
theorem spOf_at (h : Nat) : (spOf es code ws nn l ins).at_ h = simS es code ws nn l ins h := rfl
theorem wrong_fits {t : TK} (h : wrongT ws t = 0) : (findI ws t.word).2 = 0 ∧ t.Fits ∧ (findI ws t.word).1.need ≤ 0 ∧ (findI ws t.word).1.high ≤ 32 := by
 unfold wrongT at h
 split at h
 ·rename_i e; exact absurd h e
 ·rename_i e
  split at h
  ·exact absurd h (by decide)
  ·rename_i e2
   split at h
   ·exact absurd h (by decide)
   ·rename_i e3
    exact ⟨Classical.byContradiction e, Classical.byContradiction e2, by omega, by omega⟩
theorem sok {nv nt : Int} (hk : Alk es code ws) (hi : LInv es nv nt code) (hb : WsB ws) (ha : (admitT ws l).1 = 0) (hc : areC ins = true) : SOk (spOf es code ws nn l ins) (fun i => (costAt (loadsT ws l) i).toNat) es ws nn ∧ Fit8 (spOf es code ws nn l ins) (fun i => (costAt (loadsT ws l) i).toNat) (loadsT ws l) := by
 obtain ⟨a1, a2, a3, a4⟩ := admit_ok ha
 obtain ⟨b1, b2⟩ := admit_resp ha
 have hll : (loadsT ws l).length = l.length := by unfold loadsT; rw [List.length_map]
 have hcost : ∀ k, k < l.length → 1 ≤ costAt (loadsT ws l) k ∧ costAt (loadsT ws l) k ≤ 1000000 := fun k hkl => by
  have hok := loads_ok hk.toAlike b1
  have h1 := ld_at hok (k := k) (by omega)
  obtain ⟨r1, r2⟩ := resp_ok (b2 k hkl)
  have hf := (wrong_fits (b1 l[k] (List.getElem_mem hkl))).2.1
  have e : l.getD k default = l[k] := by simp [hkl]
  rw [e] at r2
  obtain ⟨f1, f2, f3, f4, _⟩ := hf
  have hdl : (l.getD k default).dl ≤ 1000000 := by rw [e]; omega
  have hcr := cost_resp hok (by omega) (by omega) hdl (b2 k hkl)
  exact ⟨h1.1, by omega⟩
 refine ⟨⟨hk.coded, hk.toAlike, a2, by simp [spOf, tsOf], fun i t ht => ?_, simI_begin hc, fun i => ?_⟩, ⟨hll, rfl, fun j hj => ?_, fun j t ht => ?_⟩⟩
 ·have hil : i < l.length := by
   have := (List.getElem?_eq_some_iff.1 ht).1
   simpa [spOf, tsOf] using this
  have hts : t = ⟨l[i].word, l[i].per, l[i].dl, l[i].off, ((startOf (lastP es l[i].word es.length)).getD 0).toNat⟩ := by
   have : (tsOf es l)[i]? = some t := ht
   unfold tsOf at this
   rw [List.getElem?_map, List.getElem?_eq_getElem hil] at this
   exact (Option.some.inj this).symm
  obtain ⟨w1, w2, w3, w4⟩ := wrong_fits (b1 l[i] (List.getElem_mem hil))
  rcases start_both hk.coded hk.toAlike l[i].word with ⟨_, e2⟩ | ⟨k, p, q, y, e1, e2, e3, e4, e5, e6, e7, e8⟩
  ·omega
  ·obtain ⟨_, _, hown⟩ := hb.okU (fun _ _ h => h) k y e2
   obtain ⟨lx, ho⟩ := hown (by omega)
   have hinf : (findI ws l[i].word).1 = y.inf := by
    unfold findI
    rw [if_neg (by omega), e1]
    simp only [Int.toNat_natCast, e2]
    rw [if_neg (by omega)]
   rw [hinf] at w3 w4
   have hco : costAt (loadsT ws l) i = y.inf.steps := by rw [(loads_at hil).1, show l.getD i default = l[i] by simp [hil], hinf]
   have hst : t.st = p := by rw [hts]; simp [e4]
   refine ⟨y, q, by rw [hst]; exact e7, e8, by rw [hst]; exact e6, ?_⟩
   rw [hco]
   exact left_word ho w3 w4 (by rw [← hco]; exact (hcost i hil).2)
 ·show (List.replicate l.length false).getD i false = false
  simp only [List.getD_eq_getElem?_getD, List.getElem?_replicate]
  split <;> rfl
 ·have := (hcost j hj).1
  show ((costAt (loadsT ws l) j).toNat : Int) = _
  omega
 ·have hil : j < l.length := by
   have := (List.getElem?_eq_some_iff.1 ht).1
   simpa [spOf, tsOf] using this
  have hts : (tsOf es l)[j]? = some t := ht
  unfold tsOf at hts
  rw [List.getElem?_map, List.getElem?_eq_getElem hil] at hts
  obtain rfl := Option.some.inj hts
  obtain ⟨_, ⟨f1, _⟩, _⟩ := wrong_fits (b1 l[j] (List.getElem_mem hil))
  rw [(loads_at hil).2, show l.getD j default = l[j] by simp [hil]]
  exact ⟨rfl, f1⟩
end
structure JR where
 wd : Int
 more : Int
 slack : Int
 off : Int
def JR.cells (j : JR) : List Value := [.int .i64 j.wd, .int .i64 j.more, .int .i64 j.slack, .int .i64 j.off]
def JR.Ok (j : JR) : Prop := I64 j.wd ∧ I64 j.more ∧ I64 j.slack ∧ I64 j.off
def JsAt (B : Nat) (w : World) (v : Value) (l : List JR) : Prop :=
 (l = [] ∧ ∃ a c, v = .slice a 0 c) ∨ ∃ pb po c, v = .slice (some ⟨pb, po, none⟩) l.length c ∧ l.length ≤ c ∧ pb < B ∧ ∀ (j : Nat) (u : Value), (l.flatMap JR.cells)[j]? = some u → w.cell? ⟨pb, po + j, none⟩ = some u
theorem JsAt.below {B : Nat} {w w' : World} {v : Value} {l : List JR} (h : JsAt B w v l) (hb : Below B w w') : JsAt B w' v l := by
 rcases h with h | ⟨pb, po, c, h1, h2, h3, h4⟩
 ·exact Or.inl h
 ·exact Or.inr ⟨pb, po, c, h1, h2, h3, fun j u hj => (hb.cell (p := ⟨pb, po + j, none⟩) h3).trans (h4 j u hj)⟩
def TkOk (es : List PE) (q : Nat) (t : TK) : Prop := (∃ d : UInt8, t.word.toList = [116, d] ∧ d.toNat < 48 + q) ∧ (∃ x, lastP es t.word es.length = some x ∧ x.var = false ∧ TEff x.inf ∧ 1 ≤ x.inf.steps ∧ x.inf.steps ≤ 500 ∧ x.inf.steps ≤ t.dl) ∧ t.Fits
theorem last_more {es : List PE} {y : PE} {s : ByteArray} (h : (y.name.toList == s.toList) = false) : lastP (es ++ [y]) s (es ++ [y]).length = lastP es s es.length := by
 have key : ∀ n, n ≤ es.length → lastP (es ++ [y]) s n = lastP es s n := by
  intro n
  induction n with
  | zero => intro _; rfl
  | succ n ih =>
   intro hn
   have e : (es ++ [y]).getD n PE.zero = es.getD n PE.zero := by
    simp only [List.getD_eq_getElem?_getD]
    rw [List.getElem?_append_left (by omega)]
   rw [lastP, lastP, e, ih (by omega)]
 rw [List.length_append, List.length_singleton, lastP]
 have e : (es ++ [y]).getD es.length PE.zero = y := by
  simp only [List.getD_eq_getElem?_getD]
  rw [List.getElem?_append_right (Nat.le_refl _)]
  simp
 rw [e, if_neg (by rw [h]; decide)]
 exact key _ (Nat.le_refl _)
theorem TkOk.more {es es' : List PE} {q : Nat} {t : TK} {c : UInt8} (h : TkOk es q t) (hc : c.toNat = 48 + q) (he : es' = es ∨ ∃ x : PE, es' = es ++ [x] ∧ x.name.toList = [116, c]) : TkOk es' (q + 1) t := by
 obtain ⟨⟨d, h1, h2⟩, ⟨x, h3, h4⟩, h5⟩ := h
 refine ⟨⟨d, h1, by omega⟩, ⟨x, ?_, h4⟩, h5⟩
 rcases he with rfl | ⟨y, rfl, hy⟩
 ·exact h3
 ·rw [last_more]
  ·exact h3
  ·rw [hy, h1]
   have : c ≠ d := fun e => by rw [e] at hc; omega
   simp [this]
theorem touch_ty {lo : Nat} {w : World} {bb : Nat} {ev cv : Value} {R : List PE × Int × Int × List Int} (h : LSys lo w bb ev cv R) {k : Nat} {t : TypeId} (hk : touch bb ev cv k) (ht : TyOf w k t) : t = 122 ∨ t = 153 ∨ t = 3 := by
 rcases hk with rfl | e | e
 ·exact Or.inl (ht.uniq (ty_blk h.sys.blk))
 ·exact Or.inr (Or.inl (ht.uniq (ty_own h.sys.row e)))
 ·exact Or.inr (Or.inr (ht.uniq (ty_own h.sys.cod e)))
section
variable {es : List PE} {code : List Int} {ws : List RW} {l : List TK} {nn : Nat}
end
attribute [local go_sem] quietG
abbrev RQ := List PE × Int × Int × List Int
def KTask (K : RQ → Prop) : Prop := ∀ (c d k : UInt8) (s : ByteArray) (R : RQ), rng c → rng d → rng k → s.data.toList = taskT c d k → K R → K (loadR s R.1 R.2.1 R.2.2.1 R.2.2.2).2
structure MSys (K : RQ → Prop) (lo : Nat) (w : World) (bb : Nat) (ev cv : Value) (R : List PE × Int × Int × List Int) (ws : List RW) : Prop where
 l : LSys lo w bb ev cv R
 alk : Alk R.1 R.2.2.2 ws
 wsb : WsB ws
 wok : WsOk ws
 es : EsOk R.1
 kk : K R
theorem MSys.below {K : RQ → Prop} {lo : Nat} {w w' : World} {bb : Nat} {ev cv : Value} {R : List PE × Int × Int × List Int} {ws : List RW} (h : MSys K lo w bb ev cv R ws) (hb : Below w.heap.size w w') : MSys K lo w' bb ev cv R ws := ⟨h.l.below hb, h.alk, h.wsb, h.wok, h.es, h.kk⟩
structure TM (K : RQ → Prop) (lo : Nat) (w0 w : World) (bb : Nat) (ev cv : Value) (R : List PE × Int × Int × List Int) (ws : List RW) (mb : Nat) (mc : Array Value) (q : Nat) (v : Value) (tl : List TK) : Prop where
 sys : MSys K lo w bb ev cv R ws
 mkr : Blk w mb mc 34
 row : w.ownsRow lo 67 4 v tl.length (tl.flatMap TK.cells)
 few : tl.length ≤ q
 ok : ∀ t ∈ tl, TkOk R.1 q t
 bel : Below lo w0 w
 sz : lo ≤ w0.heap.size ∧ 3 ≤ lo
section
variable {K : RQ → Prop} {lo : Nat} {w0 w w' : World} {bb : Nat} {ev cv : Value} {R : List PE × Int × Int × List Int} {ws : List RW} {mb : Nat} {mc : Array Value} {q : Nat} {v : Value} {tl : List TK}
theorem TM.below (h : TM K lo w0 w bb ev cv R ws mb mc q v tl) (hb : Below w.heap.size w w') : TM K lo w0 w' bb ev cv R ws mb mc q v tl :=
 ⟨h.sys.below hb, h.mkr.sub hb h.mkr.lt, ownsRow_chg h.row (Chg.ofBelow (S := fun _ => False) hb) (fun _ _ => id), h.few, h.ok, h.bel.trans (hb.mono (Nat.le_trans h.sz.1 h.bel.size)), h.sz⟩
theorem TM.lw (h : TM K lo w0 w bb ev cv R ws mb mc q v tl) : lo ≤ w.heap.size := Nat.le_trans h.sz.1 h.bel.size
theorem TM.load (hK : KTask K) {s : ByteArray} {e : Ending} {c d k : UInt8} (h : TM K lo w0 w bb ev cv R ws mb mc q v tl) (hp : LoadPost w bb ev cv (loadR s R.1 R.2.1 R.2.2.1 R.2.2.2) e w') (hc : rng c) (hcq : c.toNat = 48 + q) (hd : rng d) (hk : rng k) (hs : s.data.toList = taskT c d k) :
  ∃ (E P : Int) (ev' cv' : Value) (R' : List PE × Int × Int × List Int) (ws' : List RW), e = .returned (.tuple #[.int .i64 E, .int .i64 P]) ∧ MSys K lo w' bb ev' cv' R' ws' ∧ Blk w' mb mc 34 ∧ w'.ownsRow lo 67 4 v tl.length (tl.flatMap TK.cells) ∧ tl.length ≤ q ∧ (∀ t ∈ tl, TkOk R'.1 (q + 1) t) ∧ Below lo w0 w' := by
 obtain ⟨h1, ⟨ev', cv', h2, h3⟩, h4⟩ := h.sys.l.load h.lw hp
 obtain ⟨ws', a1, a2, a3⟩ := load_ws s h.sys.alk h.sys.l.inv h.sys.wok h.sys.wsb
 obtain ⟨e1, e2⟩ := task_words h.sys.es hc hd hk hs R.2.1 R.2.2.1 R.2.2.2
 have key : ∀ {b : Nat} {t : TypeId}, TyOf w b t → t ≠ 122 → t ≠ 153 → t ≠ 3 → ¬ touch bb ev cv b := fun {b t} ht h1 h2 h3 hk => by
  rcases touch_ty h.sys.l hk ht with g | g | g
  ·exact h1 g
  ·exact h2 g
  ·exact h3 g
 refine ⟨_, _, ev', cv', _, ws', h1, ⟨h2, a1, a2, a3, e1, hK c d k s R hc hd hk hs h.sys.kk⟩, h.mkr.chg h4 (key (ty_blk h.mkr) (by decide) (by decide) (by decide)), ownsRow_chg h.row h4 (fun b hb => key (ty_own h.row hb) (by decide) (by decide) (by decide)), h.few, fun t ht => (h.ok t ht).more hcq e2, h.bel.trans (h4.toBelow h.lw (fun b hb e => by have := h.sys.l.touch_lo e; omega))⟩
end
theorem TM.snoc {K : RQ → Prop} {lo : Nat} {w0 w w' : World} {bb : Nat} {ev cv : Value} {R : List PE × Int × Int × List Int} {ws : List RW} {mb : Nat} {mc : Array Value} {q : Nat} {v v' : Value} {tl : List TK} {t : TK} (h : TM K lo w0 w bb ev cv R ws mb mc (q + 1) v tl) (hl : tl.length ≤ q) (hg : w.grownBy w' v.ownBlock) (hr : w'.ownsRow lo 67 4 v' (tl.length + 1) (tl.flatMap TK.cells ++ t.cells)) (ht : TkOk R.1 (q + 1) t) : TM K lo w0 w' bb ev cv R ws mb mc (q + 1) v' (tl ++ [t]) := by
 have hc : Chg (fun k => some k = v.ownBlock) w w' := Chg.ofGrown hg
 have key : ∀ {b : Nat} {ty : TypeId}, TyOf w b ty → ty ≠ 67 → ¬ some b = v.ownBlock := fun {b ty} hb h1 e => h1 (hb.uniq (ty_own h.row e.symm))
 have hB : Below lo w w' := hc.toBelow h.lw (fun b hb e => by have := own_base h.row e.symm; omega)
 have htab : Tab w' := h.sys.l.tab.chg hc (fun k hk => Nat.le_trans h.sz.2 (own_base h.row hk.symm))
 refine ⟨⟨h.sys.l.chg hc htab (fun k hk e => ?_), h.sys.alk, h.sys.wsb, h.sys.wok, h.sys.es, h.sys.kk⟩, h.mkr.chg hc (key (ty_blk h.mkr) (by decide)), ?_, by rw [List.length_append, List.length_singleton]; omega, fun t' ht' => ?_, h.bel.trans hB, h.sz⟩
 ·have hty : TyOf w k 67 := ty_own h.row e.symm
  rcases touch_ty h.sys.l hk hty with g | g | g
  ·exact absurd g (by decide)
  ·exact absurd g (by decide)
  ·exact absurd g (by decide)
 ·rw [List.length_append, List.length_singleton, List.flatMap_append]
  simpa using hr
 ·rcases List.mem_append.1 ht' with g | g
  ·exact h.ok t' g
  ·rw [List.mem_singleton.1 g]; exact ht
def TasksPost (K : RQ → Prop) (lo : Nat) (w0 : World) (bb mb : Nat) (mc : Array Value) (e : Ending) (w' : World) : Prop := ∃ (va : Option Addr) (vn vc : Nat) (ev cv : Value) (R : List PE × Int × Int × List Int) (ws : List RW) (tl : List TK), e = .returned (.slice va vn vc) ∧ TM K lo w0 w' bb ev cv R ws mb mc 4 (.slice va vn vc) tl
theorem tkz_info : (Tryz.prog.info? 67).map (fun i => (i.zero, i.size, i.bytes)) = some (some (.agg #[.string ⟨#[]⟩, .int .i64 0, .int .i64 0, .int .i64 0]), 4, 40) := by kernel_rfl
theorem keep_tasks {K : RQ → Prop} (hK : KTask K) {B lo : Nat} {w : World} {bb : Nat} {ev cv : Value} {R : List PE × Int × Int × List Int} {ws : List RW} {mb : Nat} {a : Option Addr} {nn c : Nat} {i : Int} {s : ByteArray} {k v : Int} {al : Bool} {ja : Option Addr} {jn jc : Nat} {jl : List JR}
  (hs : MSys K lo w bb ev cv R ws) (hlo : lo ≤ w.heap.size) (hm : Blk w mb (mkC a nn c i s k v al) 34) (hk1 : 1 ≤ k) (hk4 : k ≤ 4) (hj : JsAt B w (.slice ja jn jc) jl) (hjo : ∀ j ∈ jl, j.Ok) (hB : B ≤ lo) (hjl : jl.length ≤ 17592186043904) (hG : 3 ≤ lo) :
  Calls Tryz.prog 27 #[.pointer (some ⟨bb, 0, none⟩), .pointer (some ⟨mb, 0, none⟩), .slice ja jn jc] w (TasksPost K lo w bb mb (mkC a nn c i s k v al)) := by
 have hjn : jn = jl.length := by
  rcases hj with ⟨rfl, a', c', e⟩ | ⟨pb, po, c', e, _⟩
  ·simp at e; simp [e]
  ·simp at e; exact e.2.1
 have hjn6 : (jn : Int) ≤ 17592186043904 := by omega
 have HTM : Hid (TM K lo w w bb ev cv R ws mb (mkC a nn c i s k v al) 0 (.slice none 0 0) []) := hidden ⟨hs, hm, row0 _ _ _ _, Nat.le_refl _, (fun t ht => by cases ht), Below.refl _ _, hlo, hG⟩
 have HJ := hidden hj; have HJO := hidden hjo; have HJN := hidden hjn; have HKK := hidden hK
 clear hK
 obtain ⟨mc, hmc⟩ : ∃ mc, mc = mkC a nn c i s k v al := ⟨_, rfl⟩
 have hm3 : mc[3]? = some (.int .i64 k) := by rw [hmc]; rfl
 have HM3 := hidden hm3
 rw [← hmc] at HTM ⊢
 obtain ⟨i0, hi, hz0, hz1, hz2⟩ := info_parts tkz_info
 have HI := hidden (And.intro hi (And.intro hz0 (And.intro hz1 hz2)))
 clear hs hm hj hjo hjn hmc hm3 hi hz0 hz1 hz2
 go_enter Tryz.func27, Tryz.ntmps27
 go_wp2_with fail
 go_loopw [7, 8] (fun lv kv wr => ∃ (q : Nat) (va : Option Addr) (vn vc : Nat) (ev cv : Value) (R : List PE × Int × Int × List Int) (ws : List RW) (tl : List TK), q ≤ 4 ∧ q ≤ jn ∧ lv = .slice va vn vc ∧ kv = .int .i64 q ∧ Hid (TM K lo w wr bb ev cv R ws mb mc q (.slice va vn vc) tl)) (fun _ kv _ => 4 - (intOf kv).toNat)
 case atStart => exact ⟨0, none, 0, 0, ev, cv, R, ws, [], Nat.zero_le _, Nat.zero_le _, rfl, rfl, HTM⟩
 case round =>
  clear HTM
  obtain ⟨q, va, vn, vc, ev, cv, R, ws, tl, hq4, hqn, rfl, rfl, HQ⟩ := hrel
  have HEND : Hid (∀ wx, Below wr.heap.size wr wx → TasksPost K lo w bb mb mc (.returned (.slice va vn vc)) wx) := hidden fun wx hb => ⟨va, vn, vc, ev, cv, R, ws, tl, rfl, by
   have h := HQ.out.below hb
   refine ⟨h.sys, h.mkr, h.row, Nat.le_trans h.few hq4, fun t ht => ?_, h.bel, h.sz⟩
   obtain ⟨⟨d, d1, d2⟩, r⟩ := h.ok t ht
   exact ⟨⟨d, d1, by omega⟩, r⟩⟩
  by_cases hlt : q < jn
  ·have hqi : (q : Int) < (jn : Int) := by omega
   by_cases hl4 : q < 4
   ·have hqi4 : (q : Int) < 4 := by omega
    clear HEND
    go_wp2_with fail
    refine (keep_digits2 (q : Int) (by omega) (by omega) wr).mono ?_
    rintro e w1 ⟨s1, rfl, ⟨s1a, s1b, s1c⟩, hb1⟩
    have HQ1 := hidden (HQ.out.below hb1)
    have HS1 := hidden s1c
    clear hb1 HQ s1b s1c
    go_upto_region 6 with fail
    obtain ⟨wd, hwd⟩ : ∃ wd : ByteArray, wd = ⟨#[116]⟩ ++ s1 := ⟨_, rfl⟩
    have hwds : wd.size = 2 := by rw [hwd, ByteArray.size_append, s1a]; rfl
    rw [← hwd]
    have hkl : q < jl.length := by rw [← HJN.out]; exact hlt
    obtain ⟨j, hjj⟩ : ∃ j, j = jl[q] := ⟨_, rfl⟩
    have hjok : j.Ok := HJO.out j (by rw [hjj]; exact List.getElem_mem hkl)
    obtain ⟨pb, po, jc', hja, hpb, hjcell⟩ : ∃ pb po c', ja = some ⟨pb, po, none⟩ ∧ pb < B ∧ ∀ (m : Nat) (u : Value), j.cells[m]? = some u → w.cell? ⟨pb, po + (q * 4 + m), none⟩ = some u := by
     rcases HJ.out with ⟨rfl, _⟩ | ⟨pb, po, c', e, _, h3, h4⟩
     ·simp at hkl
     ·simp at e
      refine ⟨pb, po, c', e.1, h3, fun m u hm => h4 _ _ ?_⟩
      have hm4 : m < 4 := by have := (List.getElem?_eq_some_iff.1 hm).1; simpa [JR.cells] using this
      rw [flat_get JR.cells 4 (fun _ => rfl) jl q m hkl hm4, ← hjj]; exact hm
    subst hja
    have hBw : B ≤ w1.heap.size := Nat.le_trans hB HQ1.out.lw
    have hpw : pb < w1.heap.size := by omega
    have HJC : Hid (∀ w', Below w1.heap.size w1 w' → ∀ (m : Nat) (u : Value), j.cells[m]? = some u → w'.cell? ⟨pb, po + (q * 4 + m), none⟩ = some u) := hidden fun w' hb m u hm => by
     rw [hb.cell (p := ⟨pb, po + (q * 4 + m), none⟩) hpw, (HQ1.out.bel.mono hB).cell (p := ⟨pb, po + (q * 4 + m), none⟩) hpb]
     exact hjcell m u hm
    have hml := HQ1.out.mkr.lt
    have HW1 := hidden HQ1.out.bel
    have k0 : ∀ u : {w' : World // Below w1.heap.size w1 w'}, u.val.cell? ⟨pb, po + q * 4, none⟩ = some (.int .i64 j.wd) := fun u => HJC.out u.val u.property 0 _ rfl
    have k1 : ∀ u : {w' : World // Below w1.heap.size w1 w'}, u.val.cell? ⟨mb, 3, none⟩ = some (.int .i64 k) := fun u => (u.property.cell (p := ⟨mb, 3, none⟩) hml).trans (HQ1.out.mkr.cell 3 _ HM3.out)
    have hne : Nonempty {w' : World // Below w1.heap.size w1 w'} := ⟨⟨w1, Below.refl _ _⟩⟩
    have hw2 : IntKind.i64.wrap ((q : Int) + 2) = (q : Int) + 2 := i64_wrap _ (by omega) (by omega)
    have HWD := hidden hwd; have HJOK := hidden hjok
    clear hwd hjj hjok hjcell
    refine wp_region_order (C := OneOf fun w' => Below w1.heap.size w1 w') 22 [0, 1, 2, 3, 4, 5, 9, 10, 11, 12, 13, 14, 15, 16, 17, 6, 7, 8, 18, 19, 20, 21] [6, 18, 19] ⟨w1.drew, (Below.refl _ w1).drew⟩ (by kernel_rfl) (by kernel_rfl) rfl ?_
    iterate 15 (refine wpT_step rfl rfl (fun K hK => ?_); go_simp; refine hK _ ?_; clear hK K)
    refine wpT_call1 rfl rfl 16 #[.int .i64 ((q : Int) + 2)] (by go_simp) ((keep_digits2 ((q : Int) + 2) (by omega) (by omega) _).mono ?_)
    rintro e w2 ⟨s2, rfl, ⟨s2a, _, s2c⟩, hb2⟩
    have hb12 : Below w1.heap.size w1 w2 := (Below.refl _ w1).drew.trans hb2
    refine ⟨_, rfl, hb12, ?_⟩
    iterate 2 (refine wpT_step rfl rfl (fun K hK => ?_); go_simp; refine hK _ ?_; clear hK K)
    refine wpT_call1 rfl rfl 17 #[.int .i64 j.wd, .int .i64 k] (by go_simp) ((keep_pick j.wd k HJOK.out.1 hk1 (by omega) _).mono ?_)
    rintro e w3 ⟨r, rfl, r0, r1, rfl⟩
    refine ⟨_, rfl, hb12, ?_⟩
    refine wpT_call1 rfl rfl 16 #[.int .i64 r] (by go_simp) ((keep_digits2 r r0 (by omega) _).mono ?_)
    rintro e w4 ⟨s3, rfl, ⟨s3a, _, s3c⟩, hb4⟩
    have hb14 : Below w1.heap.size w1 w4 := hb12.trans (hb4.mono hb12.size)
    refine ⟨_, rfl, hb14, ?_⟩
    iterate 2 (refine wpT_step rfl rfl (fun K hK => ?_); go_simp; refine hK _ ?_; clear hK K)
    refine wpT_end ?_
    intro w' hw'
    rw [show w' = w4 from hw']
    clear hw' w'
    simp only [List.drop_succ_cons, List.drop_zero]
    obtain ⟨T, hT⟩ : ∃ T : ByteArray, T = ⟨#[58, 32]⟩ ++ wd ++ ⟨#[32]⟩ ++ s2 ++ ⟨#[32, 119]⟩ ++ s3 ++ ⟨#[32, 100, 114, 111, 112, 32, 59]⟩ := ⟨_, rfl⟩
    rw [← hT]
    obtain ⟨cd, cd1, cd2, cd3⟩ := HS1.out
    obtain ⟨dd, dd1, dd2, dd3⟩ := s2c
    obtain ⟨kd, kd1, kd2, kd3⟩ := s3c
    have hTl : T.data.toList = taskT cd dd kd := by
     rw [hT, HWD.out]
     simp only [ByteArray.data_append, Array.toList_append, cd1, dd1, kd1]
     rfl
    have hTs : T.size = 16 := by
     have : T.size = T.data.toList.length := by simp
     rw [this, hTl]; rfl
    have hwl : wd.toList = [116, cd] := by
     rw [HWD.out, ba_data]
     simp only [ByteArray.data_append, Array.toList_append, cd1]
     rfl
    have hQ4 := HQ1.out.below hb14
    have HLD := hidden (forth_load T hQ4.sys.l.sys hQ4.sys.l.tab (by omega) hQ4.sys.l.inv)
    have HQ4 := hidden hQ4; have HTL := hidden hTl; have HWL := hidden hwl; have HCD := hidden (show cd.toNat = 48 + q by omega)
    have HDG := hidden (And.intro (show rng cd from ⟨by omega, by omega⟩) (And.intro (show cd.toNat = 48 + q by omega) (And.intro (show rng dd from ⟨by omega, by omega⟩) (show rng kd from ⟨by omega, by omega⟩))))
    have hw14 := hb14.size
    clear hb12 hb2 hb4 hT hTl hwl hQ4 k0 k1 hne cd1 dd1 kd1 HQ1 HS1 s1a s2a s3a
    go_wp2_with fail
    refine HLD.out.mono ?_
    intro e w5 hpost
    obtain ⟨E5, P5, ev5, cv5, R5, ws5, rfl, hs5, hm5, hr5, hf5, ho5, hB5⟩ := HQ4.out.load HKK.out hpost HDG.out.1 HDG.out.2.1 HDG.out.2.2.1 HDG.out.2.2.2 HTL.out
    have hf6 := hf5
    have hTM5 : TM K lo w w5 bb ev5 cv5 R5 ws5 mb mc (q + 1) (.slice va vn vc) tl := ⟨hs5, hm5, hr5, by omega, ho5, hB5, HQ4.out.sz⟩
    have HTM5 := hidden hTM5
    have hJ5 : ∀ (m : Nat) (u : Value), j.cells[m]? = some u → w5.cell? ⟨pb, po + (q * 4 + m), none⟩ = some u := fun m u hm => by
     have e1 := HJC.out w1 (Below.refl _ _) m u hm
     have b1 : w1.cell? ⟨pb, po + (q * 4 + m), none⟩ = w.cell? ⟨pb, po + (q * 4 + m), none⟩ := HW1.out.cell (p := ⟨pb, po + (q * 4 + m), none⟩) (by show pb < lo; omega)
     rw [hB5.cell (p := ⟨pb, po + (q * 4 + m), none⟩) (by show pb < lo; omega), ← b1]
     exact e1
    have hlk : (∃ x : PE, lastP R5.1 wd R5.1.length = some x ∧ x.var = false ∧ TEff x.inf ∧ 1 ≤ x.inf.steps) ∨ ∃ (I : Inf) (E : Int), findRes (lastP R5.1 wd R5.1.length) = .tuple #[I.val, .int .i64 E] ∧ E ≠ 0 := by
     have hfe := find_eq hs5.alk.toAlike wd
     rcases found hs5.alk hs5.l.inv hs5.wsb wd with g | ⟨g, kk, y, l, _, _, g3, _, _, _, g4, _⟩
     ·exact Or.inr ⟨_, _, hfe, by rw [g]; decide⟩
     ·cases hl : lastP R5.1 wd R5.1.length with
      | none => rw [hl, g] at hfe; simp [findRes] at hfe
      | some x =>
       obtain ⟨v1, v2⟩ := last_task hs5.es HWL.out hl
       refine Or.inl ⟨x, rfl, v1, v2, ?_⟩
       rw [hl, g, g3] at hfe
       simp [findRes, v1, Inf.val] at hfe
       omega
    have HFD := hidden (forth_find wd hs5.l.sys (by have := hs5.l.inv.l; omega))
    have HJ5 := hidden hJ5
    clear hpost hs5 hm5 hr5 hf5 ho5 hB5 hTM5 hJ5 HQ4 HLD HTL HDG hTs hw14 hb14 HW1 HJC
    rcases hlk with ⟨x, hx1, hx2, hx3, hx4⟩ | ⟨I, E, hx1, hx2⟩
    case inr =>
     rw [hx1] at HFD
     obtain ⟨nd, net, hg, st, str⟩ := I
     simp only [Inf.val] at HFD
     have hE : (E != 0) = true := by simpa using hx2
     clear hx1 hx2
     go_wp2_with fail
     refine HFD.out.mono ?_
     rintro e w6 ⟨rfl, hb6⟩
     have HQX := hidden (HTM5.out.below (hb6.trans ((Below.refl _ w6).alloc (Nat.le_refl _) (.cells #[.int .i64 nd, .int .i64 net, .int .i64 hg, .int .i64 st, .bool str] 36 (0, 0)) |>.mono hb6.size)))
     clear hb6 HFD HTM5
     go_wp2_with fail
     go_roundw
     case rel => exact ⟨q + 1, va, vn, vc, ev5, cv5, R5, ws5, tl, by omega, by omega, rfl, by go_num, HQX⟩
     case measure => simp [intOf]; omega
    case inl =>
     have hfr : findRes (lastP R5.1 wd R5.1.length) = .tuple #[x.inf.val, .int .i64 0] := by rw [hx1]; simp [findRes, hx2]
     rw [hfr] at HFD
     obtain ⟨nd, net, hg, st, str, hI⟩ : ∃ nd net hg st str, x.inf = ⟨nd, net, hg, st, str⟩ := ⟨_, _, _, _, _, rfl⟩
     rw [hI] at HFD hx3 hx4
     simp only [Inf.val] at HFD hx4
     have hst9 : st ≤ 1000000001 := by
      have := (HTM5.out.sys.l.inv.w x (last_in (Nat.le_refl _) hx1).1).s1
      rw [hI] at this; exact this
     have HX1 := hidden hx1; have HX2 := hidden hx2; have HX3 := hidden hx3; have HXI := hidden hI
     clear hfr hx1 hx2 hx3 hI
     obtain ⟨kb, hkb⟩ : ∃ kb : Nat, kb = 0 := ⟨_, rfl⟩
     clear hkb kb
     go_wp2_with fail
     refine HFD.out.mono ?_
     rintro e w6 ⟨rfl, hb6⟩
     obtain ⟨X, hX⟩ : ∃ X : World, X = w6.alloc (.cells #[.int .i64 nd, .int .i64 net, .int .i64 hg, .int .i64 st, .bool str] 36 (0, 0)) := ⟨_, rfl⟩
     obtain ⟨kb, hkb⟩ : ∃ kb, kb = w6.heap.size := ⟨_, rfl⟩
     have hbX : Below w6.heap.size w6 X := by rw [hX]; exact (Below.refl _ _).alloc (Nat.le_refl _) _
     have hkX : Blk X kb #[.int .i64 nd, .int .i64 net, .int .i64 hg, .int .i64 st, .bool str] 36 := by rw [hX, hkb]; exact blk_new w6 _ _
     have HQX := hidden (HTM5.out.below (hb6.trans (hbX.mono hb6.size)))
     have hJX : ∀ (m : Nat) (u : Value), j.cells[m]? = some u → X.cell? ⟨pb, po + (q * 4 + m), none⟩ = some u := fun m u hm => ((hb6.trans (hbX.mono hb6.size)).cell (p := ⟨pb, po + (q * 4 + m), none⟩) (show pb < w5.heap.size by have := HTM5.out.lw; omega)).trans (HJ5.out m u hm)
     have z3 : X.cell? ⟨kb, 3, none⟩ = some (.int .i64 st) := hkX.cell 3 _ rfl
     have hkl3 := hkX.lt
     have hpX : pb < X.heap.size := by have := HQX.out.lw; omega
     have HX := hidden hX; have HKB := hidden hkb; have HJX := hidden hJX; have HKX := hidden hkX
     clear hb6 hX hkb hbX hkX hJX HFD HTM5 HJ5
     go_upto_region 8 with fail
     rw [← HX.out, ← HKB.out]
     by_cases h500 : 500 < st
     ·go_wp2_with fail
      go_roundw
      case rel => exact ⟨q + 1, va, vn, vc, ev5, cv5, R5, ws5, tl, by omega, by omega, rfl, by go_num, HQX⟩
      case measure => simp [intOf]; omega
     ·have j1 : X.cell? ⟨pb, po + q * 4 + 1, none⟩ = some (.int .i64 j.more) := by rw [Nat.add_assoc]; exact HJX.out 1 _ rfl
      have j2 : X.cell? ⟨pb, po + q * 4 + 2, none⟩ = some (.int .i64 j.slack) := by rw [Nat.add_assoc]; exact HJX.out 2 _ rfl
      have j3 : X.cell? ⟨pb, po + q * 4 + 3, none⟩ = some (.int .i64 j.off) := by rw [Nat.add_assoc]; exact HJX.out 3 _ rfl
      have k0 : ∀ u : {w' : World // Below X.heap.size X w'}, u.val.cell? ⟨kb, 3, none⟩ = some (.int .i64 st) := fun u => (u.property.cell (p := ⟨kb, 3, none⟩) hkl3).trans z3
      have k1 : ∀ u : {w' : World // Below X.heap.size X w'}, u.val.cell? ⟨pb, po + q * 4 + 1, none⟩ = some (.int .i64 j.more) := fun u => (u.property.cell (p := ⟨pb, po + q * 4 + 1, none⟩) hpX).trans j1
      have k2 : ∀ u : {w' : World // Below X.heap.size X w'}, u.val.cell? ⟨pb, po + q * 4 + 2, none⟩ = some (.int .i64 j.slack) := fun u => (u.property.cell (p := ⟨pb, po + q * 4 + 2, none⟩) hpX).trans j2
      have hne : Nonempty {w' : World // Below X.heap.size X w'} := ⟨⟨X, Below.refl _ _⟩⟩
      obtain ⟨_, i2, i3, i4⟩ := HJOK.out
      have HI2 := hidden i2; have HI3 := hidden i3; have HI4 := hidden i4
      clear i2 i3 i4
      go_upto_region 9 with fail
      refine wp_region_turns (C := OneOf fun w' => Below X.heap.size X w') 8 [7] ⟨X.drew, (Below.refl _ X).drew⟩ (by kernel_rfl) (by kernel_rfl) rfl ?_
      rw [show List.range 8 = [0, 1, 2, 3, 4, 5, 6, 7] from rfl]
      iterate 7 (refine wpT_step rfl rfl (fun K hK => ?_); go_simp; refine hK _ ?_; clear hK K)
      refine wpT_call1 rfl rfl 17 #[.int .i64 j.more, .int .i64 2000] (by go_simp) ((keep_pick j.more 2000 HI2.out (by omega) (by omega) _).mono ?_)
      rintro e w7 ⟨p1, rfl, p10, p11, rfl⟩
      refine ⟨_, rfl, (Below.refl _ X).drew, wpT_end ?_⟩
      intro w' hw'
      rw [show w' = X.drew from hw']
      clear hw' w'
      simp only [List.drop_succ_cons, List.drop_zero]
      go_upto_region 10 with fail
      obtain ⟨P, hP⟩ : ∃ P : Int, P = st + p1 := ⟨_, rfl⟩
      rw [← hP]
      have hP0 : st ≤ P := by omega
      have hP1 : P ≤ 2500 := by omega
      have HP := hidden hP
      clear hP
      obtain ⟨D, hD⟩ : ∃ D : Int, D = P - st := ⟨_, rfl⟩
      have hPD : P - st = D := hD.symm
      have hw3 : IntKind.i64.wrap D = D := i64_wrap _ (by omega) (by omega)
      have hw4 : IntKind.i64.wrap (D + 1) = D + 1 := i64_wrap _ (by omega) (by omega)
      have HDD := hidden hD
      have hD0 : 0 ≤ D := by omega
      have hD1 : D ≤ 2500 := by omega
      clear hD
      refine wp_region_turns (C := OneOf fun w' => Below X.heap.size X w') 12 [11] ⟨X.drew.drew, (Below.refl _ X).drew.drew⟩ (by kernel_rfl) (by kernel_rfl) rfl ?_
      rw [show List.range 12 = [0, 1, 2, 3, 4, 5, 6, 7, 8, 9, 10, 11] from rfl]
      iterate 11 (refine wpT_step rfl rfl (fun K hK => ?_); go_simp; refine hK _ ?_; clear hK K)
      refine wpT_call1 rfl rfl 17 #[.int .i64 j.slack, .int .i64 (D + 1)] (by go_simp) ((keep_pick j.slack (D + 1) HI3.out (by omega) (by omega) _).mono ?_)
      rintro e w8 ⟨p2, rfl, p20, p21, rfl⟩
      refine ⟨_, rfl, (Below.refl _ X).drew.drew, wpT_end ?_⟩
      intro w' hw'
      rw [show w' = X.drew.drew from hw']
      clear hw' w'
      simp only [List.drop_succ_cons, List.drop_zero]
      obtain ⟨dl, hdl⟩ : ∃ dl : Int, dl = P - p2 := ⟨_, rfl⟩
      have hPd : P - p2 = dl := hdl.symm
      have hdl0 : st ≤ dl := by have := HDD.out; omega
      have hdl1 : dl ≤ P := by omega
      clear hdl
      go_upto_region 11 with fail
      obtain ⟨Y, hY⟩ : ∃ Y : World, Y = X.drew.drew := ⟨_, rfl⟩
      have j3Y : Y.cell? ⟨pb, po + q * 4 + 3, none⟩ = some (.int .i64 j.off) := by rw [hY]; exact j3
      have hpY : pb < Y.heap.size := by rw [hY]; exact hpX
      have HQY : Hid (TM K lo w Y bb ev5 cv5 R5 ws5 mb mc (q + 1) (.slice va vn vc) tl) := hidden (by rw [hY]; exact HQX.out.below (Below.refl _ X).drew.drew)
      rw [← hY]
      clear hY k0 k1 k2 hne j1 j2 j3 z3 HQX HX HKB HJX HKX hw3 hw4 HI2 HI3
      go_wp2_with fail
      refine (keep_pick j.off 300 HI4.out (by omega) (by omega) _).mono ?_
      rintro e w9 ⟨p3, rfl, p30, p31, rfl⟩
      obtain ⟨hi0, hz0, hsz0, hb0⟩ := HI.out
      have hTA := HQY.out.below ((Below.refl _ w9).alloc (Nat.le_refl _) (.cells #[.string wd, .int .i64 P, .int .i64 dl, .int .i64 p3] 67 (0, 0)))
      have hrA := hTA.row
      have hlo9 := hTA.lw
      obtain ⟨qn, hqn⟩ : ∃ qn, qn = tl.length := ⟨_, rfl⟩
      obtain ⟨qi, hqi⟩ : ∃ qi, qi = tl.flatMap TK.cells := ⟨_, rfl⟩
      rw [← hqn, ← hqi] at hrA
      have hqs : qn ≤ 8 := by have := hf6; omega
      have HRA := hidden hrA; have HTA := hidden hTA
      have HNW := hidden (newsM w9 #[.string wd, .int .i64 P, .int .i64 dl, .int .i64 p3] 67)
      have H1C : Hid (∀ u ∈ [Value.string wd, .int .i64 P, .int .i64 dl, .int .i64 p3], u.oneCell' = true) := hidden fun u hu => by
       simp only [List.mem_cons, List.not_mem_nil, or_false] at hu
       rcases hu with rfl | rfl | rfl | rfl <;> rfl
      have HQQ := hidden (And.intro hqn hqi)
      clear hqn hqi hrA hTA j3Y HQY
      go_wp2_with (at_builtin; refine wpList_append_own _ rfl _ _ 55 rfl lo 67 i0 (.agg #[.string ⟨#[]⟩, .int .i64 0, .int .i64 0, .int .i64 0]) 4 40 Tryz.underlying55 hi0 hz0 hsz0 hb0 rfl (by decide) (.slice va vn vc) qn qi rfl HRA.out ⟨w9.heap.size, 0, none⟩ 1 1 [.string wd, .int .i64 P, .int .i64 dl, .int .i64 p3] rfl rfl HNW.out H1C.out (by unfold maxLen; omega) (by omega) hlo9 ?_)
      intro v4 w10 hr4 hg4 _
      have htk : TkOk R5.1 (q + 1) ⟨wd, P, dl, p3⟩ := ⟨⟨cd, HWL.out, by have := HCD.out; omega⟩, ⟨x, HX1.out, HX2.out, by rw [HXI.out]; exact HX3.out, by rw [HXI.out]; exact hx4, by rw [HXI.out]; show st ≤ 500; omega, by rw [HXI.out]; exact hdl0⟩, ⟨by show 1 ≤ P; omega, by show P ≤ 1000000; omega, by show 1 ≤ dl; omega, hdl1, p30, by show p3 ≤ 1000000; omega⟩⟩
      have hfin : TM K lo w w10 bb ev5 cv5 R5 ws5 mb mc (q + 1) v4 (tl ++ [⟨wd, P, dl, p3⟩]) := HTA.out.snoc hf6 hg4 (by
       obtain ⟨e1, e2⟩ := HQQ.out
       rw [← e1, ← e2]
       exact hr4) htk
      obtain ⟨a4, c4, rfl, _, _⟩ := row_shape hfin.row
      generalize hn4 : (tl ++ [(⟨wd, P, dl, p3⟩ : TK)]).length = n4 at hfin ⊢
      have HF := hidden hfin
      clear hr4 hg4 htk hfin hi0 hz0 hsz0 hb0 HNW HRA HTA HQQ H1C hn4
      go_wp2_with fail
      go_roundw
      case rel => exact ⟨q + 1, a4, n4, c4, ev5, cv5, R5, ws5, _, by omega, by omega, rfl, by go_num, HF⟩
      case measure => simp [intOf]; omega
   ·obtain rfl : q = 4 := by omega
    go_wp2_with fail
    go_ret
    exact HEND.out _ (Below.refl _ _)
  ·obtain rfl : q = jn := by omega
   have hji : ¬ (q : Int) < (q : Int) := by omega
   go_wp2_with fail
   go_ret
   exact HEND.out _ (Below.refl _ _)
end Go.Proofs.YtcphhbofjkenaaaGreatDoor
namespace Go.Proofs.YtcphhbofjkenaaaGreatDoor
set_option maxRecDepth 100000
set_option maxHeartbeats 16000000
open Go Go.RowKit
set_option linter.unusedVariables false
set_option linter.unusedSimpArgs false
theorem resp_const {D : Int → Int} {dl M c : Int} (h : ∀ r, 1 ≤ r → r ≤ M → D r = c) (h1 : 1 ≤ c) (h2 : c ≤ M) (h3 : M ≤ dl) : respT D dl ≠ 0 := by
 unfold respT
 obtain ⟨f, hf⟩ : ∃ f, dl.toNat + 1 = f + 1 + 1 := ⟨dl.toNat - 1, by omega⟩
 rw [hf, respG, if_pos (by omega), h 1 (Int.le_refl _) (by omega)]
 split
 ·decide
 ·rw [respG, if_pos (by omega), h c h1 h2, if_pos rfl]; omega
def sumC : List (Int × Int) → Int
 | [] => 0
 | x :: l => x.1 + sumC l
theorem sumC_append (a b : List (Int × Int)) : sumC (a ++ b) = sumC a + sumC b := by
 induction a with
 | nil => simp [sumC]
 | cons x a ih => simp only [List.cons_append, sumC, ih]; omega
theorem within_once {r : Int} : ∀ (l : List (Int × Int)), (∀ x ∈ l, 1 ≤ r ∧ r ≤ x.2) → within r l = sumC l
 | [], _ => rfl
 | x :: l, h => by
  obtain ⟨h1, h2⟩ := h x List.mem_cons_self
  have e : (r + x.2 - 1) / x.2 = 1 := by
   have h3 : r + x.2 - 1 = (r - 1) + x.2 * 1 := by omega
   rw [h3, Int.add_mul_ediv_left _ _ (by omega), Int.ediv_eq_zero_of_lt (by omega) (by omega)]
   rfl
  show x.1 * ((r + x.2 - 1) / x.2) + within r l = _
  rw [e, within_once l (fun y hy => h y (List.mem_cons_of_mem _ hy)), sumC]
  omega
section
variable {ws : List RW} {l : List TK}
theorem ahead_sum {k : Nat} (hc : ∀ j, j < l.length → 0 ≤ costAt (loadsT ws l) j) : ∀ m, m ≤ l.length → (if k < m then costAt (loadsT ws l) k else 0) + sumC (aheadP (loadsT ws l) k m) ≤ allT ws l m
 | 0, _ => by simp [aheadP, sumC, allT]
 | m + 1, hm => by
  have ih := ahead_sum (k := k) hc m (by omega)
  have hcm := hc m (by omega)
  have e : (findI ws (l.getD m default).word).1.steps = costAt (loadsT ws l) m := (loads_at (by omega)).1.symm
  rw [allT, e, aheadP]
  by_cases hkm : k = m
  ·subst hkm
   rw [if_pos (show k < k + 1 by omega), if_neg (show ¬ goesP (loadsT ws l) k k = true by rw [goes_irr]; decide)]
   rw [if_neg (show ¬ k < k by omega)] at ih
   omega
  ·have e2 : (if k < m + 1 then costAt (loadsT ws l) k else 0) = (if k < m then costAt (loadsT ws l) k else 0) := by
    by_cases g : k < m
    ·rw [if_pos (by omega), if_pos g]
    ·rw [if_neg (by omega), if_neg g]
   rw [e2]
   generalize (if k < m then costAt (loadsT ws l) k else 0) = ck at ih ⊢
   by_cases hg : goesP (loadsT ws l) m k = true
   ·rw [if_pos hg, sumC_append]
    simp only [sumC]
    omega
   ·rw [if_neg hg]; omega
theorem least_le : ∀ m j, j < m → leastT l m ≤ (l.getD j default).dl
 | 0, j, h => by omega
 | m + 1, j, h => by
  rw [leastT]
  rcases Nat.lt_or_ge j m with g | g
  ·have := least_le m j g; omega
  ·obtain rfl : j = m := by omega
   omega
theorem late_why {k : Nat} (hw : ∀ t ∈ l, wrongT ws t = 0) (hlo : ∀ x ∈ loadsT ws l, LdOk x) (hd : ∀ j, j < l.length → costAt (loadsT ws l) j ≤ (l.getD j default).dl) (hk : k < l.length) (h : respAt (loadsT ws l) l k = 0) : firstT l k l.length 0 = false ∧ leastT l l.length < allT ws l l.length := by
 have hll : (loadsT ws l).length = l.length := by unfold loadsT; rw [List.length_map]
 have hck := ld_at hlo (k := k) (by omega)
 have hget : ∀ j, j < l.length → (l.getD j default).Fits := fun j hj => by
  rw [show l.getD j default = l[j] by simp [hj]]
  exact (wrong_fits (hw l[j] (List.getElem_mem hj))).2.1
 refine ⟨?_, ?_⟩
 ·cases hf : firstT l k l.length 0 with
  | false => rfl
  | true =>
   exfalso
   rw [first_rank (ws := ws) hk] at hf
   have hr := of_decide_eq_true hf
   unfold rankP at hr
   have ha : aheadP (loadsT ws l) k (loadsT ws l).length = [] := List.length_eq_zero_iff.1 hr
   refine resp_const (M := (l.getD k default).dl) (c := costAt (loadsT ws l) k) (fun r _ _ => ?_) hck.1 (hd k hk) (Int.le_refl _) h
   unfold demandT
   rw [ha]
   simp [within]
 ·rcases Int.lt_or_le (leastT l l.length) (allT ws l l.length) with g | g
  ·exact g
  ·exfalso
   have hs := ahead_sum (ws := ws) (l := l) (k := k) (fun j hj => by have := (ld_at hlo (k := j) (by omega)).1; simp only at this; omega) l.length (Nat.le_refl _)
   rw [if_pos hk] at hs
   refine resp_const (M := leastT l l.length) (c := costAt (loadsT ws l) k + sumC (aheadP (loadsT ws l) k l.length)) (fun r h1 h2 => ?_) ?_ (by omega) (least_le _ k hk) h
   ·unfold demandT
    rw [hll, within_once]
    intro x hx
    rw [ahead_map] at hx
    obtain ⟨j, hj, rfl⟩ := List.mem_map.1 hx
    have hjl := (aheadN_mem.1 hj).1
    have hle := least_le (l := l) l.length j hjl
    have hfit := hget j hjl
    obtain ⟨_, _, _, f4, _⟩ := hfit
    refine ⟨h1, ?_⟩
    show r ≤ perAt (loadsT ws l) j
    rw [(loads_at hjl).2]
    omega
   ·have : 0 ≤ sumC (aheadP (loadsT ws l) k l.length) := by
     have hah := ahead_ok hlo k l.length (by omega)
     have : ∀ L : List (Int × Int), (∀ x ∈ L, LdOk x) → 0 ≤ sumC L := by
      intro L
      induction L with
      | nil => intro _; exact Int.le_refl _
      | cons x L ih =>
       intro hL
       have a := (hL x List.mem_cons_self).1
       have b := ih (fun y hy => hL y (List.mem_cons_of_mem _ hy))
       simp only [sumC]; omega
     exact this _ hah
    have h1 := hck.1
    simp only at h1
    omega
end
section
variable {es : List PE} {code : List Int} {ws : List RW} {l : List TK} {nn : Nat} {ins : List Int}
theorem tk_right {q : Nat} {t : TK} (hk : Alk es code ws) (h : TkOk es q t) : wrongT ws t = 0 ∧ 1 ≤ (findI ws t.word).1.steps ∧ (findI ws t.word).1.steps ≤ 500 ∧ (findI ws t.word).1.steps ≤ t.dl := by
 obtain ⟨_, ⟨x, h1, h2, h3, h4, h5, h6⟩, h7⟩ := h
 have hfe := find_eq hk.toAlike t.word
 rw [h1] at hfe
 simp [findRes, h2, Inf.val] at hfe
 obtain ⟨⟨g1, g2, g3, g4, g5⟩, g6⟩ := hfe
 have hn := h3.n
 have hh := h3.h1
 refine ⟨?_, by omega, by omega, by omega⟩
 unfold wrongT
 rw [if_neg (by omega), if_neg (fun e => e h7), if_neg (by omega)]
theorem made_admit {q : Nat} (hk : Alk es code ws) (ht : ∀ t ∈ l, TkOk es q t) (h8 : l.length ≤ 8) : (l = [] ∧ admitT ws l = (1, 0)) ∨ (0 < l.length ∧ ((admitT ws l).1 = 0 ∨ ∃ k, k < l.length ∧ admitT ws l = (11, k) ∧ firstT l k l.length 0 = false ∧ leastT l l.length < allT ws l l.length)) := by
 have hw : ∀ t ∈ l, wrongT ws t = 0 := fun t h => (tk_right hk (ht t h)).1
 rcases Nat.eq_zero_or_pos l.length with h0 | h0
 ·left
  refine ⟨List.length_eq_zero_iff.1 h0, ?_⟩
  unfold admitT
  rw [if_pos (Or.inl h0)]
 ·right
  refine ⟨h0, ?_⟩
  have hsc : scanW ws l 0 = none := by
   have : ∀ (l : List TK) (k : Nat), (∀ t ∈ l, wrongT ws t = 0) → scanW ws l k = none := by
    intro l
    induction l with
    | nil => intro k _; rfl
    | cons t r ih =>
     intro k h
     rw [scanW, if_neg (fun e => e (h t List.mem_cons_self))]
     exact ih (k + 1) (fun x hx => h x (List.mem_cons_of_mem _ hx))
   exact this l 0 hw
  cases hl : lateP (loadsT ws l) l l.length 0 with
  | none =>
   left
   unfold admitT
   rw [if_neg (by omega), hsc]
   simp only [hl]
  | some k =>
   right
   obtain ⟨_, k2, k3⟩ := late_some hl
   rw [Nat.zero_add] at k2
   have hd : ∀ j, j < l.length → costAt (loadsT ws l) j ≤ (l.getD j default).dl := fun j hj => by
    rw [(loads_at hj).1]
    have e : l.getD j default = l[j] := by simp [hj]
    rw [e]
    exact (tk_right hk (ht l[j] (List.getElem_mem hj))).2.2.2
   obtain ⟨g1, g2⟩ := late_why hw (loads_ok hk.toAlike hw) hd k2 k3
   refine ⟨k, k2, ?_, g1, g2⟩
   unfold admitT
   rw [if_neg (by omega), hsc]
   simp only [hl]
end
theorem ts_row {B : Nat} {w : World} {va : Option Addr} {vn vc : Nat} {tl : List TK} (h : w.ownsRow B 67 4 (.slice va vn vc) tl.length (tl.flatMap TK.cells)) : vn = tl.length ∧ vn ≤ vc ∧ (vn = 0 ∨ ∃ tg, va = some ⟨tg, 0, none⟩ ∧ TsAt w tg tl) := by
 obtain ⟨ad, cap, e, hcap, _⟩ := row_shape h
 simp only [Value.slice.injEq] at e
 obtain ⟨rfl, e2, rfl⟩ := e
 refine ⟨e2, by omega, ?_⟩
 rcases Nat.eq_zero_or_pos tl.length with g | g
 ·exact Or.inl (by omega)
 ·obtain ⟨tg, cap', hv, _, hlt, _, _, hcc⟩ := row_cells h g
  simp only [Value.slice.injEq] at hv
  obtain ⟨rfl, _, _⟩ := hv
  exact Or.inr ⟨tg, rfl, hlt, hcc⟩
end Go.Proofs.YtcphhbofjkenaaaGreatDoor
