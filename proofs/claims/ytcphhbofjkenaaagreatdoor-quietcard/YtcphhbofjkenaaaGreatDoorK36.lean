import Derived.Laws.MakeOwn
import Derived.Laws.OwnMore
import Derived.Test.YtcphhbofjkenaaaGreatDoorK03
import Derived.Test.YtcphhbofjkenaaaGreatDoorK31

namespace Go.Proofs.YtcphhbofjkenaaaGreatDoor
open Go Go.RowKit
set_option linter.unusedVariables false
set_option linter.unusedSimpArgs false
attribute [local go_sem] quietG

theorem make_rows {P : Program} (t e : TypeId) (z : Value) (zc : Array Value) (size bytes : Nat) (hzc : z.cells = zc) (ht : P.underlying t = some (.slice e)) (hinfo : (P.info? e).map (fun i => (i.zero, i.size, i.bytes)) = some (some z, size, bytes)) (n : Nat) (hbytes : bytes * n ≤ 281474976710656) (h63 : n ≤ 9223372036854775807) (w : World) :
    (Instr.makeSlice t (.int .i64 (n : Int)) (.int .i64 (n : Int))).run P w = .ok (.slice (some ⟨w.heap.size, 0, none⟩) n n) (w.alloc (.cells (madeCells zc (n * size)) e)) := by
  subst hzc
  obtain ⟨i, hi, hz, hs, hb⟩ := info_parts hinfo
  have := run_make (P := P) w t e i z ht hi hz .i64 .i64 n n (by omega) (Int.le_refl _) (by rw [hb, ← Int.natCast_mul]; omega) (by omega)
  rw [hs] at this
  simpa using this

theorem scan_at {ws : List RW} {l : List TK} {k : Nat} (h : k < l.length) : scanW ws (l.drop k) k = if wrongT ws l[k] ≠ 0 then some (wrongT ws l[k], k) else scanW ws (l.drop (k + 1)) (k + 1) := by
  rw [List.drop_eq_getElem_cons h, scanW]

theorem lateP_at (ls : List (Int × Int)) (l : List TK) (n k : Nat) : lateP ls l (n + 1) k = if respAt ls l k = 0 then some k else lateP ls l n (k + 1) := rfl

def AdmPost (w : World) (ws : List RW) (l : List TK) (e : Ending) (w' : World) : Prop :=
  (∃ pa pn pc, e = .returned (.tuple #[.slice pa pn pc, .int .i64 (admitT ws l).1, .int .i64 (admitT ws l).2]) ∧ ((admitT ws l).1 ≠ 0 → pa = none ∧ pn = 0 ∧ pc = 0) ∧
    ((admitT ws l).1 = 0 → pn = l.length ∧ 0 < pn ∧ pn ≤ 8 ∧ w'.ownsRow w.heap.size 133 3 (.slice pa pn pc) pn (plansTo (loadsT ws l) l pn))) ∧ Below w.heap.size w w'

theorem AdmPost.err {w w' : World} {ws : List RW} {l : List TK} {e : Ending} {E : Int} {K : Nat} (h : admitT ws l = (E, K)) (h0 : E ≠ 0) (he : e = .returned (.tuple #[.slice none 0 0, .int .i64 E, .int .i64 K])) (hb : Below w.heap.size w w') : AdmPost w ws l e w' := by
  refine ⟨⟨none, 0, 0, ?_, fun _ => ⟨rfl, rfl, rfl⟩, fun e => ?_⟩, hb⟩
  · rw [h]; exact he
  · rw [h] at e; exact absurd e h0

theorem plz_info : (Tryz.prog.info? 133).map (fun i => (i.zero, i.size, i.bytes)) = some (some (.agg #[.int .i64 0, .int .i64 0, .int .i64 0]), 3, 24) := by kernel_rfl

theorem set2_pre {ys xs : List Value} {k n : Nat} {a b : Value} (hk : k < n) (hl : ys.length = n * 2) (h : ∀ j, j < k * 2 → ys[j]? = xs[j]?) (ha : xs[k * 2]? = some a) (hb : xs[k * 2 + 1]? = some b) :
    ∀ j, j < (k + 1) * 2 → ((ys.set (k * 2) a).set (k * 2 + 1) b)[j]? = xs[j]? := by
  intro j hj
  by_cases e1 : j = k * 2 + 1
  · subst e1; rw [List.getElem?_set_self (by simp; omega), hb]
  · rw [List.getElem?_set_ne (by omega)]
    by_cases e0 : j = k * 2
    · subst e0; rw [List.getElem?_set_self (by omega), ha]
    · rw [List.getElem?_set_ne (by omega)]; exact h j (by omega)
theorem set3_pre {ys xs : List Value} {k n : Nat} {a b c : Value} (hk : k < n) (hl : ys.length = n * 3) (h : ∀ j, j < k * 3 → ys[j]? = xs[j]?) (ha : xs[k * 3]? = some a) (hb : xs[k * 3 + 1]? = some b) (hc : xs[k * 3 + 2]? = some c) :
    ∀ j, j < (k + 1) * 3 → (((ys.set (k * 3) a).set (k * 3 + 1) b).set (k * 3 + 2) c)[j]? = xs[j]? := by
  intro j hj
  by_cases e2 : j = k * 3 + 2
  · subst e2; rw [List.getElem?_set_self (by simp; omega), hc]
  · rw [List.getElem?_set_ne (by omega)]
    by_cases e1 : j = k * 3 + 1
    · subst e1; rw [List.getElem?_set_self (by simp; omega), hb]
    · rw [List.getElem?_set_ne (by omega)]
      by_cases e0 : j = k * 3
      · subst e0; rw [List.getElem?_set_self (by omega), ha]
      · rw [List.getElem?_set_ne (by omega)]; exact h j (by omega)
theorem eq_of_pre {ys xs : List Value} {n : Nat} (h1 : ys.length = n) (h2 : xs.length = n) (h : ∀ j, j < n → ys[j]? = xs[j]?) : ys = xs := by
  apply List.ext_getElem?
  intro j
  by_cases hj : j < n
  · exact h j hj
  · rw [List.getElem?_eq_none (by omega), List.getElem?_eq_none (by omega)]
theorem plans_get (ls : List (Int × Int)) (l : List TK) : ∀ n k m, k < n → m < 3 → (plansTo ls l n)[k * 3 + m]? = (planAt ls l k)[m]?
  | n + 1, k, m, hk, hm => by
    rw [plansTo]
    by_cases e : k < n
    · rw [List.getElem?_append_left (by rw [plansTo_len]; omega)]; exact plans_get ls l n k m e hm
    · obtain rfl : k = n := by omega
      rw [List.getElem?_append_right (by rw [plansTo_len]; omega), plansTo_len]
      congr 1; omega
theorem row_free' {w : World} {base : Nat} {e : TypeId} {size g n cap : Nat} {xs : List Value} (h : w.ownsRow base e size (.slice (some ⟨g, 0, none⟩) n cap) n xs) (k : Nat) : w.frozen? ⟨g, k, none⟩ = false := by
  rcases h.2 with ⟨h0, _⟩ | ⟨g', cap', cur, hv, _, hh, _⟩
  · cases h0
  · obtain ⟨rfl, rfl⟩ : g = g' ∧ cap = cap' := by simpa using hv
    simp [World.frozen?, hh]

set_option maxRecDepth 100000 in
set_option maxHeartbeats 16000000 in
theorem rates_admit {w : World} {bb : Nat} {ev cv : Value} {es : List PE} {nv nt : Int} {code : List Int} {ws : List RW} (l : List TK) (ta : Option Addr) (n cap : Nat) (h : PSys w bb ev cv es nv nt code) (hl : es.length ≤ 1000) (hA : Alike es ws) (hn : n = l.length) (hnc : n ≤ cap) (hnb : n ≤ 1100000)
    (hc : (n = 0) ∨ ∃ tg, ta = some ⟨tg, 0, none⟩ ∧ tg < w.heap.size ∧ ∀ (j : Nat) (u : Value), (l.flatMap TK.cells)[j]? = some u → w.cell? ⟨tg, j, none⟩ = some u) :
    Calls Tryz.prog 28 #[.pointer (some ⟨bb, 0, none⟩), .slice ta n cap] w (AdmPost w ws l) := by
  have hbb := h.blk.lt
  by_cases h0 : n = 0
  · have hadm : admitT ws l = (1, 0) := by unfold admitT; rw [if_pos (Or.inl (by omega))]
    have HAD := hidden hadm
    have hz : ((n : Int) == 0) = true := by simp; omega
    clear h hA hc hadm hn
    subst h0
    go_enter Tryz.func28, Tryz.ntmps28
    go_wp2_with fail
    exact bodyPost_ret (v := .tuple #[.slice none 0 0, .int .i64 1, .int .i64 0]) (by simp [results, Tryz.results28, go_sem]) rfl (AdmPost.err HAD.out (by decide) rfl (Below.refl _ _))
  · have hz : ((n : Int) == 0) = false := by simp; omega
    by_cases h8 : 8 < n
    · have hadm : admitT ws l = (1, 0) := by unfold admitT; rw [if_pos (Or.inr (by omega))]
      have HAD := hidden hadm
      have h8i : (8 : Int) < (n : Int) := by omega
      clear h hA hc hadm hn
      go_enter Tryz.func28, Tryz.ntmps28
      go_wp2_with fail
      exact bodyPost_ret (v := .tuple #[.slice none 0 0, .int .i64 1, .int .i64 0]) (by simp [results, Tryz.results28, go_sem]) rfl (AdmPost.err HAD.out (by decide) rfl (Below.refl _ _))
    · have h8i : ¬ (8 : Int) < (n : Int) := by omega
      obtain ⟨tg, rfl, htg, hc⟩ : ∃ tg, ta = some ⟨tg, 0, none⟩ ∧ tg < w.heap.size ∧ ∀ (j : Nat) (u : Value), (l.flatMap TK.cells)[j]? = some u → w.cell? ⟨tg, j, none⟩ = some u := hc.resolve_left h0
      have hadm : admitT ws l = match scanW ws l 0 with
          | some (e, k) => (e, k)
          | none => match lateP (loadsT ws l) l l.length 0 with
            | some k => (11, k)
            | none => (0, 0) := by unfold admitT; rw [if_neg (by omega)]; rfl
      have HAD := hidden hadm; have HNL := hidden hn; have HAL := hidden hA
      have HTC := hidden (fun (w' : World) (hb : Below w.heap.size w w') (k : Nat) (hk : k < l.length) => (show w'.cell? ⟨tg, k * 4, none⟩ = some (.string l[k].word) ∧ w'.cell? ⟨tg, k * 4 + 1, none⟩ = some (.int .i64 l[k].per) ∧ w'.cell? ⟨tg, k * 4 + 2, none⟩ = some (.int .i64 l[k].dl) ∧ w'.cell? ⟨tg, k * 4 + 3, none⟩ = some (.int .i64 l[k].off) from by
        have q : ∀ m u, m < 4 → (l[k].cells)[m]? = some u → w'.cell? ⟨tg, k * 4 + m, none⟩ = some u := fun m u hm hu => by
          rw [hb.cell (p := ⟨tg, k * 4 + m, none⟩) htg]
          refine hc _ _ ?_
          rw [flat_get TK.cells 4 (fun _ => rfl) l k m hk hm]; exact hu
        exact ⟨by have := q 0 _ (by omega) rfl; simpa using this, q 1 _ (by omega) rfl, q 2 _ (by omega) rfl, q 3 _ (by omega) rfl⟩))
      have HPR := hidden (fun (t : TK) (w' : World) (hb : Below w.heap.size w w') => rates_price t (h.below hb) hl hA)
      have hm1 := make_rows (P := Tryz.prog) 125 128 ldz #[.int .i64 0, .int .i64 0] 2 16 rfl Tryz.underlying125 Tryz.infoLd n (by omega) (by omega)
      obtain ⟨lg, hlg⟩ : ∃ lg, lg = w.heap.size := ⟨_, rfl⟩
      obtain ⟨W, hW⟩ : ∃ W : World, W = w.alloc (.cells (madeCells #[.int .i64 0, .int .i64 0] (n * 2)) 128 (0, 0)) := ⟨_, rfl⟩
      have hbW : Below w.heap.size w W := by rw [hW]; exact (Below.refl _ _).alloc (Nat.le_refl _) _
      have hrW : W.ownsRow w.heap.size 128 2 (.slice (some ⟨lg, 0, none⟩) n n) n (madeCells #[.int .i64 0, .int .i64 0] (n * 2)).toList := by
        rw [hW, hlg]; exact World.ownsRow_lit w _ n (Nat.le_refl _) (by unfold maxLen; omega) (size_madeCells _ _)
      have HW := hidden hW; have HLG := hidden hlg; have HBW := hidden hbW; have HRW := hidden hrW
      clear h hA hc hadm hn hW hlg hbW hrW
      go_enter Tryz.func28, Tryz.ntmps28
      go_upto_region 4 with fail
      rw [← HW.out, ← HLG.out]
      clear hm1
      go_wp2_with fail
      go_loopw [32] (fun i wr => ∃ (k : Nat) (ys : List Value), k ≤ n ∧ i = .int .i64 k ∧ Hid (wr.ownsRow w.heap.size 128 2 (.slice (some ⟨lg, 0, none⟩) n n) n ys ∧ ∀ j, j < k * 2 → ys[j]? = ((loadsT ws l).flatMap ldC)[j]?) ∧ Hid (scanW ws l 0 = scanW ws (l.drop k) k) ∧ Hid (Below w.heap.size w wr)) (fun i _ => n - (intOf i).toNat)
      case atStart => exact ⟨0, _, Nat.zero_le _, rfl, hidden ⟨HRW.out, fun j hj => by omega⟩, hidden rfl, HBW⟩
      case round =>
        clear HRW HBW HW
        obtain ⟨k, ys, hk, rfl, HY, HS, HB⟩ := hrel
        by_cases hlt : k < n
        · have hli : (k : Int) < (n : Int) := by omega
          have hl0 : (0 : Int) ≤ (k : Int) := by omega
          have hkl : k < l.length := by rw [← HNL.out]; exact hlt
          obtain ⟨t, ht⟩ : ∃ t, t = l[k] := ⟨_, rfl⟩
          have q := HTC.out wr HB.out k hkl
          rw [← ht] at q
          obtain ⟨q0, q1, q2, q3⟩ := q
          obtain ⟨X, hX⟩ : ∃ X : World, X = wr.alloc (.cells #[.string t.word, .int .i64 t.per, .int .i64 t.dl, .int .i64 t.off] 67 (0, 0)) := ⟨_, rfl⟩
          obtain ⟨tb, htb⟩ : ∃ tb, tb = wr.heap.size := ⟨_, rfl⟩
          have hbX : Below w.heap.size w X := by rw [hX]; exact HB.out.alloc HB.out.size _
          have hkX : Blk X tb #[.string t.word, .int .i64 t.per, .int .i64 t.dl, .int .i64 t.off] 67 := by rw [hX, htb]; exact blk_new wr _ _
          have hrX : X.ownsRow w.heap.size 128 2 (.slice (some ⟨lg, 0, none⟩) n n) n ys := by rw [hX]; exact HY.out.1.alloc _
          have x0 : X.cell? ⟨tb, 0, none⟩ = some (.string t.word) := hkX.cell 0 _ rfl
          have x1 : X.cell? ⟨tb, 1, none⟩ = some (.int .i64 t.per) := hkX.cell 1 _ rfl
          have x2 : X.cell? ⟨tb, 2, none⟩ = some (.int .i64 t.dl) := hkX.cell 2 _ rfl
          have x3 : X.cell? ⟨tb, 3, none⟩ = some (.int .i64 t.off) := hkX.cell 3 _ rfl
          have hscan := scan_at (ws := ws) hkl
          rw [← ht, ← HS.out] at hscan
          have hlk : ((loadsT ws l).flatMap ldC)[k * 2]? = some (.int .i64 (findI ws t.word).1.steps) ∧ ((loadsT ws l).flatMap ldC)[k * 2 + 1]? = some (.int .i64 t.per) := by
            have hkL : k < (loadsT ws l).length := by simpa [loadsT] using hkl
            have e : (loadsT ws l)[k] = ((findI ws t.word).1.steps, t.per) := by simp [loadsT, ht]
            have a0 := flat_get ldC 2 (fun _ => rfl) (loadsT ws l) k 0 hkL (by omega)
            have a1 := flat_get ldC 2 (fun _ => rfl) (loadsT ws l) k 1 hkL (by omega)
            rw [e] at a0 a1
            exact ⟨by simpa [ldC] using a0, by simpa [ldC] using a1⟩
          have HPT := hidden (HPR.out t X hbX)
          obtain ⟨E, hE⟩ : ∃ E, E = wrongT ws t := ⟨_, rfl⟩
          obtain ⟨P, hP⟩ : ∃ P, P = priceT ws t := ⟨_, rfl⟩
          rw [← hE, ← hP] at HPT
          rw [← hE] at hscan
          have hPE : E = 0 → P = (findI ws t.word).1.steps := fun e => by rw [hP, priceT, if_pos (by rw [← hE]; exact e)]
          have HX := hidden hX; have HTB := hidden htb; have HBX := hidden hbX; have HKX := hidden hkX; have HRX := hidden hrX; have HSC := hidden hscan; have HLK := hidden hlk; have HPE := hidden hPE; have HY2 := hidden HY.out.2
          unfold TK.val at HPT
          clear hX htb hbX hkX hrX hscan hlk hPE ht hE hP HY HS
          go_upto_region 7 with fail
          rw [← HX.out, ← HTB.out]
          clear q0 q1 q2 q3
          go_wp2_with fail
          refine HPT.out.mono ?_
          rintro e w2 ⟨rfl, hb2⟩
          have hk2 := HKX.out.sub hb2 HKX.out.lt
          have z1 : w2.cell? ⟨tb, 1, none⟩ = some (.int .i64 t.per) := hk2.cell 1 _ rfl
          have hr2 := ownsRow_chg HRX.out (Chg.ofBelow (S := fun _ => False) hb2) (fun _ _ => id)
          have HB2 := hidden (HBX.out.trans (hb2.mono HBX.out.size)); have HR2 := hidden hr2
          have htb2 := hk2.lt
          clear hb2 hk2 hr2 HPT x0 x1 x2 x3
          by_cases hE0 : E = 0
          · have hEn : (E != 0) = false := by simp [hE0]
            obtain ⟨lg', cap', hv, _, hlgt, _, _, hcc⟩ := row_cells HR2.out (by omega)
            obtain ⟨rfl, rfl⟩ : lg = lg' ∧ n = cap' := by simpa using hv
            have hyl : ys.length = n * 2 := HR2.out.1
            obtain ⟨y0, hy0⟩ : ∃ x, ys[k * 2]? = some x := ⟨_, List.getElem?_eq_getElem (by omega)⟩
            obtain ⟨y1, hy1⟩ : ∃ x, ys[k * 2 + 1]? = some x := ⟨_, List.getElem?_eq_getElem (by omega)⟩
            have e0 : w2.cell? ⟨lg, k * 2, none⟩ = some y0 := hcc _ _ hy0
            have e1 : w2.cell? ⟨lg, k * 2 + 1, none⟩ = some y1 := hcc _ _ hy1
            have f0 := row_free' HR2.out (k * 2); have f1 := row_free' HR2.out (k * 2 + 1)
            have HYL := hidden hyl
            clear hv hcc hy0 hy1 hyl
            go_wp2_with fail
            go_roundw
            case rel =>
              have hlk := HLK.out
              rw [← HPE.out hE0] at hlk
              refine ⟨k + 1, (ys.set (k * 2) (.int .i64 P)).set (k * 2 + 1) (.int .i64 t.per), by omega, by go_num, hidden ⟨ownsRow_set (ownsRow_set HR2.out (k * 2) _) (k * 2 + 1) _, set2_pre hlt HYL.out HY2.out hlk.1 hlk.2⟩, hidden ?_, hidden ((HB2.out.setCell (by show w.heap.size ≤ lg; have := HLG.out; omega) _).setCell (by show w.heap.size ≤ lg; have := HLG.out; omega) _)⟩
              rw [HSC.out, if_neg (by simp [hE0])]
            case measure => simp [intOf]; omega
          · have hEn : (E != 0) = true := by simp [hE0]
            have hfin : Hid (admitT ws l = (E, k)) := by
              show admitT ws l = _
              rw [HAD.out, HSC.out, if_pos hE0]
            clear HSC HAD
            go_wp2_with fail
            exact bodyPost_ret (v := .tuple #[.slice none 0 0, .int .i64 E, .int .i64 k]) (by simp [results, Tryz.results28, go_sem]) rfl (AdmPost.err hfin.out hE0 rfl HB2.out)
        · obtain rfl : k = n := by omega
          have hli : ¬ (k : Int) < (k : Int) := by omega
          have hsn : scanW ws l 0 = none := by rw [HS.out, List.drop_eq_nil_of_le (by have := HNL.out; omega)]; rfl
          have hys : ys = (loadsT ws l).flatMap ldC := eq_of_pre HY.out.1.1 (by rw [flat_length ldC 2 (fun _ => rfl)]; simp [loadsT]; have := HNL.out; omega) HY.out.2
          have hrow : wr.ownsRow w.heap.size 128 2 (.slice (some ⟨lg, 0, none⟩) k k) k ((loadsT ws l).flatMap ldC) := by rw [← hys]; exact HY.out.1
          have hwr := scanW_none hsn
          obtain ⟨ls, hls⟩ : ∃ ls, ls = loadsT ws l := ⟨_, rfl⟩
          have hok : ∀ x ∈ ls, LdOk x := by rw [hls]; exact loads_ok HAL.out hwr
          have hlsl : ls.length = k := by rw [hls]; simp [loadsT]; exact HNL.out.symm
          have hfit : ∀ t ∈ l, 1 ≤ t.dl ∧ t.dl ≤ 1000000 := fun t ht => by
            have := hwr t ht
            unfold wrongT at this
            split at this
            · contradiction
            · split at this
              · exact absurd this (by decide)
              · rename_i h1
                have h1 : t.Fits := Classical.byContradiction h1
                obtain ⟨_, _, a, b, _⟩ := h1; omega
          have hadm2 := HAD.out
          rw [hsn] at hadm2
          simp only at hadm2
          rw [← hls] at hadm2 hrow
          have HAD2 := hidden hadm2; have HLR := hidden hrow; have HOK := hidden hok; have HLL := hidden hlsl; have HFT := hidden hfit; have HLS := hidden hls
          clear hsn hys hrow hwr hok hlsl hfit hadm2 hls HY HS HAD HPR
          have hm2 := make_rows (P := Tryz.prog) 57 133 (.agg #[.int .i64 0, .int .i64 0, .int .i64 0]) #[.int .i64 0, .int .i64 0, .int .i64 0] 3 24 rfl Tryz.underlying57 plz_info k (by omega) (by omega)
          obtain ⟨pg, hpg⟩ : ∃ pg, pg = wr.heap.size := ⟨_, rfl⟩
          obtain ⟨V, hV⟩ : ∃ V : World, V = wr.alloc (.cells (madeCells #[.int .i64 0, .int .i64 0, .int .i64 0] (k * 3)) 133 (0, 0)) := ⟨_, rfl⟩
          have hbV : Below w.heap.size w V := by rw [hV]; exact HB.out.alloc HB.out.size _
          have hrV : V.ownsRow w.heap.size 133 3 (.slice (some ⟨pg, 0, none⟩) k k) k (madeCells #[.int .i64 0, .int .i64 0, .int .i64 0] (k * 3)).toList := by
            rw [hV, hpg]; exact World.ownsRow_lit wr _ k HB.out.size (by unfold maxLen; omega) (size_madeCells _ _)
          have hlV : V.ownsRow w.heap.size 128 2 (.slice (some ⟨lg, 0, none⟩) k k) k (ls.flatMap ldC) := by rw [hV]; exact HLR.out.alloc _
          have HV := hidden hV; have HPG := hidden hpg; have HBV := hidden hbV; have HRV := hidden hrV; have HLV := hidden hlV
          have hlgp : lg < pg := by have := own_lt HLR.out (k := lg) rfl; omega
          have hwpg : w.heap.size ≤ pg := by have := HB.out.size; omega
          clear hV hpg hbV hrV hlV HB HLR
          go_upto_region 13 with fail
          rw [← HV.out, ← HPG.out]
          clear hm2
          go_wp2_with fail
          go_loopw [60] (fun i wr => ∃ (m : Nat) (ys : List Value), m ≤ k ∧ i = .int .i64 m ∧ Hid (wr.ownsRow w.heap.size 133 3 (.slice (some ⟨pg, 0, none⟩) k k) k ys ∧ ∀ j, j < m * 3 → ys[j]? = (plansTo ls l k)[j]?) ∧ Hid (wr.ownsRow w.heap.size 128 2 (.slice (some ⟨lg, 0, none⟩) k k) k (ls.flatMap ldC)) ∧ Hid (lateP ls l l.length 0 = lateP ls l (k - m) m) ∧ Hid (Below w.heap.size w wr)) (fun i _ => k - (intOf i).toNat)
          case atStart => exact ⟨0, _, Nat.zero_le _, rfl, hidden ⟨HRV.out, fun j hj => by omega⟩, HLV, hidden (by rw [← HNL.out]; rfl), HBV⟩
          case round =>
            clear HRV HBV HV HLV
            obtain ⟨m, ys, hm, rfl, HY, HL2, HS, HB⟩ := hrel
            by_cases hlt : m < k
            · have hli : (m : Int) < (k : Int) := by omega
              have hl0 : (0 : Int) ≤ (m : Int) := by omega
              have hkl : m < l.length := by rw [← HNL.out]; exact hlt
              obtain ⟨t, ht⟩ : ∃ t, t = l[m] := ⟨_, rfl⟩
              have q := HTC.out wr HB.out m hkl
              rw [← ht] at q
              obtain ⟨q0, q1, q2, q3⟩ := q
              have hdl := HFT.out t (by rw [ht]; exact List.getElem_mem hkl)
              obtain ⟨X, hX⟩ : ∃ X : World, X = wr.alloc (.cells #[.string t.word, .int .i64 t.per, .int .i64 t.dl, .int .i64 t.off] 67 (0, 0)) := ⟨_, rfl⟩
              obtain ⟨tb, htb⟩ : ∃ tb, tb = wr.heap.size := ⟨_, rfl⟩
              have hbX : Below w.heap.size w X := by rw [hX]; exact HB.out.alloc HB.out.size _
              have hkX : Blk X tb #[.string t.word, .int .i64 t.per, .int .i64 t.dl, .int .i64 t.off] 67 := by rw [hX, htb]; exact blk_new wr _ _
              have hrX : X.ownsRow w.heap.size 133 3 (.slice (some ⟨pg, 0, none⟩) k k) k ys := by rw [hX]; exact HY.out.1.alloc _
              have hlX : X.ownsRow w.heap.size 128 2 (.slice (some ⟨lg, 0, none⟩) k k) k (ls.flatMap ldC) := by rw [hX]; exact HL2.out.alloc _
              obtain ⟨c, hcc⟩ : ∃ c, c = costAt ls m := ⟨_, rfl⟩
              have e0 := (ld_cells hlX (k := m) (by have := HLL.out; omega) HLL.out).1
              rw [← hcc] at e0
              have hco := ld_at HOK.out (k := m) (by have := HLL.out; omega)
              rw [← hcc] at hco
              obtain ⟨hc1, hc2, _, _⟩ := hco
              simp only at hc1 hc2
              have HAH := hidden (fun (w' : World) (hb : Below X.heap.size X w') => rates_ahead ls lg k k m w' (ownsRow_chg hlX (Chg.ofBelow (S := fun _ => False) hb) (fun _ _ => id)) HLL.out (by omega) hlt)
              have hlate := lateP_at ls l (k - m - 1) m
              rw [show k - m - 1 + 1 = k - m by omega, ← HS.out] at hlate
              have HX := hidden hX; have HTB := hidden htb; have HBX := hidden hbX; have HKX := hidden hkX; have HRX := hidden hrX; have HLX := hidden hlX; have HLT := hidden hlate; have HCC := hidden hcc; have HY2 := hidden HY.out.2; have HT := hidden ht
              have htbX := hkX.lt
              clear hX htb hbX hkX hrX hlX hlate hcc ht HY HS HL2
              go_upto_region 16 with fail
              rw [← HX.out, ← HTB.out]
              clear q0 q1 q2 q3
              have hlgX : lg < X.heap.size := own_lt HLX.out (k := lg) rfl
              have k0 : ∀ u : {w' : World // Below X.heap.size X w'}, u.val.cell? ⟨lg, m * 2, none⟩ = some (.int .i64 c) := fun u => (u.property.cell (p := ⟨lg, m * 2, none⟩) hlgX).trans e0
              have hne : Nonempty {w' : World // Below X.heap.size X w'} := ⟨⟨X, Below.refl _ _⟩⟩
              clear e0
              refine wp_region_turns (C := OneOf fun w' => Below X.heap.size X w') 8 [7] ⟨X.drew, (Below.refl _ X).drew⟩ (by kernel_rfl) (by kernel_rfl) rfl ?_
              rw [show List.range 8 = [0, 1, 2, 3, 4, 5, 6, 7] from rfl]
              repeat (refine wpT_step rfl rfl (fun K hK => ?_); go_simp; refine hK _ ?_; clear hK K)
              refine wpT_call1 rfl rfl 54 #[.slice (some ⟨lg, 0, none⟩) k k, .int .i64 m] (by go_simp) ((HAH.out _ (Below.refl _ X).drew).mono ?_)
              rintro e w2 ⟨ua, uc, rfl, hr2, hb2⟩
              have hbX2 : Below X.heap.size X w2 := (Below.refl _ X).drew.trans hb2
              refine ⟨_, rfl, hbX2, wpT_end ?_⟩
              intro w' hw'
              rw [show w' = w2 from hw']
              clear hw' w'
              obtain ⟨ah, hah⟩ : ∃ ah, ah = aheadP ls m k := ⟨_, rfl⟩
              rw [← hah] at hr2 ⊢
              have hahl : ah.length ≤ 8 := by rw [hah]; have := aheadP_len ls m k; omega
              have hahk : ∀ x ∈ ah, LdOk x := by rw [hah]; exact ahead_ok HOK.out m k (by have := HLL.out; omega)
              have hDD : (fun r => c + within r ah) = demandT ls m := by
                funext r; unfold demandT; rw [HCC.out, hah, HLL.out]
              have HRS := hidden (fun (w' : World) (hb : Below w2.heap.size w2 w') => rates_respond c t.dl ah (.slice ua ah.length uc) w' (ownsRow_chg hr2 (Chg.ofBelow (S := fun _ => False) hb) (fun _ _ => id)) hahk hahl hc1 hc2 hdl.1 hdl.2)
              rw [hDD] at HRS
              obtain ⟨R, hR⟩ : ∃ R, R = respT (demandT ls m) t.dl := ⟨_, rfl⟩
              rw [← hR] at HRS
              have hRa : respAt ls l m = R := by
                rw [hR, HT.out]; unfold respAt; congr 1
                simp [hkl]
              have hpl : (planAt ls l m) = [.int .i64 c, .int .i64 (ah.length : Int), .int .i64 R] := by
                unfold planAt; rw [hRa, ← HCC.out, HLL.out, ← hah]
              have hkt2 := HKX.out.sub hbX2 HKX.out.lt
              have z2 : w2.cell? ⟨tb, 2, none⟩ = some (.int .i64 t.dl) := hkt2.cell 2 _ rfl
              have hrp2 := ownsRow_chg HRX.out (Chg.ofBelow (S := fun _ => False) hbX2) (fun _ _ => id)
              have hrl2 := ownsRow_chg HLX.out (Chg.ofBelow (S := fun _ => False) hbX2) (fun _ _ => id)
              have hbw2 := HBX.out.trans (hbX2.mono HBX.out.size)
              have hlate2 := HLT.out
              rw [hRa] at hlate2
              have HLT2 := hidden hlate2; have HPL := hidden hpl; have HP2 := hidden hrp2; have HL3 := hidden hrl2; have HB2 := hidden hbw2
              obtain ⟨A, hAA⟩ : ∃ A, A = ah.length := ⟨_, rfl⟩
              rw [← hAA] at HRS HPL ⊢
              have hA8 : A ≤ 8 := by omega
              have htb2 := hkt2.lt
              have HRS2 := hidden (HRS.out w2 (Below.refl _ _))
              clear hr2 hb2 hbX2 hah hahl hahk hDD hR hRa hpl hkt2 hrp2 hrl2 hbw2 hlate2 hAA HRS k0 hne HAH HRX HLX HLT HKX hdl hc1 hc2
              simp only [List.drop_succ_cons, List.drop_zero]
              go_wp2_with fail
              refine HRS2.out.mono ?_
              rintro e w3 ⟨rfl, hb3⟩
              have hrp3 := ownsRow_chg HP2.out (Chg.ofBelow (S := fun _ => False) hb3) (fun _ _ => id)
              have hrl3 := ownsRow_chg HL3.out (Chg.ofBelow (S := fun _ => False) hb3) (fun _ _ => id)
              have HP3 := hidden hrp3; have HL4 := hidden hrl3; have HB3 := hidden (HB2.out.trans (hb3.mono HB2.out.size))
              clear hrp3 hrl3 hb3 HRS2 HP2 HL3 HB2 z2
              by_cases hR0 : R = 0
              · have hd : decide (R ≠ 0) = false := by simp [hR0]
                have hfin : Hid (admitT ws l = (11, m)) := by
                  show admitT ws l = _
                  rw [HAD2.out, HLT2.out, if_pos hR0]
                rw [hd]
                clear HLT2 HAD2 hd
                go_wp2_with fail
                exact bodyPost_ret (v := .tuple #[.slice none 0 0, .int .i64 11, .int .i64 m]) (by simp [results, Tryz.results28, go_sem]) rfl (AdmPost.err hfin.out (by decide) rfl HB3.out)
              · have hd : decide (R ≠ 0) = true := by simp [hR0]
                rw [hd]
                obtain ⟨pg', cap', hv, _, hpgt, _, _, hcc⟩ := row_cells HP3.out (by omega)
                obtain ⟨rfl, rfl⟩ : pg = pg' ∧ k = cap' := by simpa using hv
                have hyl : ys.length = k * 3 := HP3.out.1
                obtain ⟨y0, hy0⟩ : ∃ x, ys[m * 3]? = some x := ⟨_, List.getElem?_eq_getElem (by omega)⟩
                obtain ⟨y1, hy1⟩ : ∃ x, ys[m * 3 + 1]? = some x := ⟨_, List.getElem?_eq_getElem (by omega)⟩
                obtain ⟨y2, hy2⟩ : ∃ x, ys[m * 3 + 2]? = some x := ⟨_, List.getElem?_eq_getElem (by omega)⟩
                have e0 : w3.cell? ⟨pg, m * 3, none⟩ = some y0 := hcc _ _ hy0
                have e1 : w3.cell? ⟨pg, m * 3 + 1, none⟩ = some y1 := hcc _ _ hy1
                have e2 : w3.cell? ⟨pg, m * 3 + 2, none⟩ = some y2 := hcc _ _ hy2
                have f0 := row_free' HP3.out (m * 3); have f1 := row_free' HP3.out (m * 3 + 1); have f2 := row_free' HP3.out (m * 3 + 2)
                have HYL := hidden hyl
                clear hv hcc hy0 hy1 hy2 hyl hd
                go_wp2_with fail
                go_roundw
                case rel =>
                  have p0 := plans_get ls l k m 0 hlt (by omega)
                  have p1 := plans_get ls l k m 1 hlt (by omega)
                  have p2 := plans_get ls l k m 2 hlt (by omega)
                  rw [HPL.out] at p0 p1 p2
                  refine ⟨m + 1, ((ys.set (m * 3) (.int .i64 c)).set (m * 3 + 1) (.int .i64 A)).set (m * 3 + 2) (.int .i64 R), by omega, by go_num, hidden ⟨ownsRow_set (ownsRow_set (ownsRow_set HP3.out (m * 3) _) (m * 3 + 1) _) (m * 3 + 2) _, set3_pre hlt HYL.out HY2.out (by simpa using p0) (by simpa using p1) (by simpa using p2)⟩, hidden ?_, hidden ?_, hidden (((HB3.out.setCell hwpg _).setCell hwpg _).setCell hwpg _)⟩
                  · refine ownsRow_chg HL4.out ((((Chg.refl (fun b => b = pg) w3).setCell (p := ⟨pg, m * 3, none⟩) rfl _).setCell (p := ⟨pg, m * 3 + 1, none⟩) rfl _).setCell (p := ⟨pg, m * 3 + 2, none⟩) rfl _) (fun b hb e => ?_)
                    have : lg = b := by simpa [Value.ownBlock] using hb
                    omega
                  · rw [HLT2.out, if_neg hR0]; congr 1
                case measure => simp [intOf]; omega
            · obtain rfl : m = k := by omega
              have hli : ¬ (m : Int) < (m : Int) := by omega
              have hys : ys = plansTo ls l m := eq_of_pre HY.out.1.1 (plansTo_len ls l m) HY.out.2
              have hrow : wr.ownsRow w.heap.size 133 3 (.slice (some ⟨pg, 0, none⟩) m m) m (plansTo ls l m) := by rw [← hys]; exact HY.out.1
              have hlate := HS.out
              rw [Nat.sub_self] at hlate
              have hadm := HAD2.out
              rw [hlate] at hadm
              have hadm : admitT ws l = (0, 0) := hadm
              have HRW := hidden hrow; have HAA := hidden hadm
              clear hys hrow hlate hadm HY HS HAD2
              go_wp2_with fail
              refine bodyPost_ret (v := .tuple #[.slice (some ⟨pg, 0, none⟩) m m, .int .i64 0, .int .i64 0]) (by simp [results, Tryz.results28, go_sem]) rfl ⟨⟨some ⟨pg, 0, none⟩, m, m, ?_, fun e => ?_, fun e => ⟨HNL.out, by omega, by omega, ?_⟩⟩, HB.out⟩
              · rw [HAA.out]; rfl
              · rw [HAA.out] at e; exact absurd rfl e
              · rw [← HLS.out]; exact HRW.out

end Go.Proofs.YtcphhbofjkenaaaGreatDoor
