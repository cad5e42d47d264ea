/- The program: Admit. -/
import Derived.Laws.CopyRow
import Derived.Laws.MakeOwn
import Derived.Laws.OwnMore
import Derived.Lib.SliceRun
import Derived.Test.YtcphhbofjkenaaaGreatDoorM09
import Derived.Test.YtcphhbofjkenaaaGreatDoorM36
import Derived.Test.YtcphhbofjkenaaaGreatDoorM45
import Derived.Test.YtcphhbofjkenaaaGreatDoorM48
import Derived.Test.YtcphhbofjkenaaaGreatDoorM49

namespace Go.Proofs.YtcphhbofjkenaaaGreatDoor
open Go Go.RowKit
set_option linter.unusedVariables false
set_option linter.unusedSimpArgs false
attribute [local go_sem] quietG

/-- A row that is made. -/
theorem make_rows {P : Program} (t e : TypeId) (z : Value) (zc : Array Value) (size bytes : Nat) (hzc : z.cells = zc) (ht : P.underlying t = some (.slice e)) (hinfo : (P.info? e).map (fun i => (i.zero, i.size, i.bytes)) = some (some z, size, bytes)) (n : Nat) (hbytes : bytes * n ≤ 281474976710656) (h63 : n ≤ 9223372036854775807) (w : World) :
    (Instr.makeSlice t (.int .i64 (n : Int)) (.int .i64 (n : Int))).run P w = .ok (.slice (some ⟨w.heap.size, 0, none⟩) n n) (w.alloc (.cells (madeCells zc (n * size)) e)) := by
  subst hzc
  obtain ⟨i, hi, hz, hs, hb⟩ := info_parts hinfo
  have := run_make (P := P) w t e i z ht hi hz .i64 .i64 n n (by omega) (Int.le_refl _) (by rw [hb, ← Int.natCast_mul]; omega) (by omega)
  rw [hs] at this
  simpa using this

theorem taskC_len (l : List TK) : (l.flatMap TK.cells).length = l.length * 4 := flat_length TK.cells 4 (fun _ => rfl) l

theorem scan_at {ws : List RW} {l : List TK} {k : Nat} (h : k < l.length) : scanW ws (l.drop k) k = if wrongT ws l[k] ≠ 0 then some (wrongT ws l[k], k) else scanW ws (l.drop (k + 1)) (k + 1) := by
  rw [List.drop_eq_getElem_cons h, scanW]

theorem lateP_at (ls : List (Int × Int)) (l : List TK) (n k : Nat) : lateP ls l (n + 1) k = if respAt ls l k = 0 then some k else lateP ls l n (k + 1) := rfl

/-- What Admit leaves. -/
def AdmPost (w : World) (ws : List RW) (l : List TK) (e : Ending) (w' : World) : Prop :=
  (∃ pa pn pc, e = .returned (.tuple #[.slice pa pn pc, .int .i64 (admitT ws l).1, .int .i64 (admitT ws l).2]) ∧ ((admitT ws l).1 ≠ 0 → pa = none ∧ pn = 0 ∧ pc = 0) ∧
    ((admitT ws l).1 = 0 → pn = l.length ∧ 0 < pn ∧ pn ≤ 8 ∧ w'.ownsRow w.heap.size 133 3 (.slice pa pn pc) pn (plansTo (loadsT ws l) l pn))) ∧ Below w.heap.size w w'

theorem ret3 {v : Value} {a b a' b' : Int} (h : a = a') (h' : b = b') : Ending.returned (.tuple #[v, .int .i64 a, .int .i64 b]) = .returned (.tuple #[v, .int .i64 a', .int .i64 b']) := by rw [h, h']
theorem AdmPost.err {w w' : World} {ws : List RW} {l : List TK} {e : Ending} {E : Int} {K : Nat} (h : admitT ws l = (E, K)) (h0 : E ≠ 0) (he : e = .returned (.tuple #[.slice none 0 0, .int .i64 E, .int .i64 K])) (hb : Below w.heap.size w w') : AdmPost w ws l e w' := by
  refine ⟨⟨none, 0, 0, ?_, fun _ => ⟨rfl, rfl, rfl⟩, fun e => ?_⟩, hb⟩
  · rw [h]; exact he
  · rw [h] at e; exact absurd e h0

theorem plz_info : (Tryz.prog.info? 133).map (fun i => (i.zero, i.size, i.bytes)) = some (some (.agg #[.int .i64 0, .int .i64 0, .int .i64 0]), 3, 24) := by kernel_rfl

theorem set2_pre {ys xs : List Value} {k n : Nat} {a b : Value} (hk : k < n) (hl : ys.length = n * 2) (h : ∀ j, j < k * 2 → ys[j]? = xs[j]?) (ha : xs[k * 2]? = some a) (hb : xs[k * 2 + 1]? = some b) :
    ∀ j, j < (k + 1) * 2 → ((ys.set (k * 2) a).set (k * 2 + 1) b)[j]? = xs[j]? := by
  intro j hj
  by_cases e1 : j = k * 2 + 1
  · subst e1; rw [List.getElem?_set_self (by simp; omega), hb]
  · rw [List.getElem?_set_ne (by omega)]
    by_cases e0 : j = k * 2
    · subst e0; rw [List.getElem?_set_self (by omega), ha]
    · rw [List.getElem?_set_ne (by omega)]; exact h j (by omega)
theorem set3_pre {ys xs : List Value} {k n : Nat} {a b c : Value} (hk : k < n) (hl : ys.length = n * 3) (h : ∀ j, j < k * 3 → ys[j]? = xs[j]?) (ha : xs[k * 3]? = some a) (hb : xs[k * 3 + 1]? = some b) (hc : xs[k * 3 + 2]? = some c) :
    ∀ j, j < (k + 1) * 3 → (((ys.set (k * 3) a).set (k * 3 + 1) b).set (k * 3 + 2) c)[j]? = xs[j]? := by
  intro j hj
  by_cases e2 : j = k * 3 + 2
  · subst e2; rw [List.getElem?_set_self (by simp; omega), hc]
  · rw [List.getElem?_set_ne (by omega)]
    by_cases e1 : j = k * 3 + 1
    · subst e1; rw [List.getElem?_set_self (by simp; omega), hb]
    · rw [List.getElem?_set_ne (by omega)]
      by_cases e0 : j = k * 3
      · subst e0; rw [List.getElem?_set_self (by omega), ha]
      · rw [List.getElem?_set_ne (by omega)]; exact h j (by omega)
theorem eq_of_pre {ys xs : List Value} {n : Nat} (h1 : ys.length = n) (h2 : xs.length = n) (h : ∀ j, j < n → ys[j]? = xs[j]?) : ys = xs := by
  apply List.ext_getElem?
  intro j
  by_cases hj : j < n
  · exact h j hj
  · rw [List.getElem?_eq_none (by omega), List.getElem?_eq_none (by omega)]
theorem plans_get (ls : List (Int × Int)) (l : List TK) : ∀ n k m, k < n → m < 3 → (plansTo ls l n)[k * 3 + m]? = (planAt ls l k)[m]?
  | n + 1, k, m, hk, hm => by
    rw [plansTo]
    by_cases e : k < n
    · rw [List.getElem?_append_left (by rw [plansTo_len]; omega)]; exact plans_get ls l n k m e hm
    · obtain rfl : k = n := by omega
      rw [List.getElem?_append_right (by rw [plansTo_len]; omega), plansTo_len]
      congr 1; omega
theorem row_free' {w : World} {base : Nat} {e : TypeId} {size g n cap : Nat} {xs : List Value} (h : w.ownsRow base e size (.slice (some ⟨g, 0, none⟩) n cap) n xs) (k : Nat) : w.frozen? ⟨g, k, none⟩ = false := by
  rcases h.2 with ⟨h0, _⟩ | ⟨g', cap', cur, hv, _, hh, _⟩
  · cases h0
  · obtain ⟨rfl, rfl⟩ : g = g' ∧ cap = cap' := by simpa using hv
    simp [World.frozen?, hh]

set_option maxRecDepth 100000 in
set_option maxHeartbeats 16000000 in
theorem rates_admit {w : World} {bb : Nat} {ev cv : Value} {es : List PE} {nv nt : Int} {code : List Int} {ws : List RW} (l : List TK) (ta : Option Addr) (n cap : Nat) (h : PSys w bb ev cv es nv nt code) (hl : es.length ≤ 1000) (hA : Alike es ws) (hn : n = l.length) (hnc : n ≤ cap) (hnb : n ≤ 1100000)
    (hc : (n = 0) ∨ ∃ tg, ta = some ⟨tg, 0, none⟩ ∧ tg < w.heap.size ∧ ∀ (j : Nat) (u : Value), (l.flatMap TK.cells)[j]? = some u → w.cell? ⟨tg, j, none⟩ = some u) :
    Calls Tryz.prog 28 #[.pointer (some ⟨bb, 0, none⟩), .slice ta n cap] w (AdmPost w ws l) := by
  have hbb := h.blk.lt
  by_cases h0 : n = 0
  · have hadm : admitT ws l = (1, 0) := by unfold admitT; rw [if_pos (Or.inl (by omega))]
    have HAD := hidden hadm
    have hz : ((n : Int) == 0) = true := by simp; omega
    clear h hA hc hadm hn
    subst h0
    go_enter Tryz.func28, Tryz.ntmps28
    go_wp2_with fail
    exact bodyPost_ret (v := .tuple #[.slice none 0 0, .int .i64 1, .int .i64 0]) (by simp [results, Tryz.results28, go_sem]) rfl (AdmPost.err HAD.out (by decide) rfl (Below.refl _ _))
  · have hz : ((n : Int) == 0) = false := by simp; omega
    by_cases h8 : 8 < n
    · have hadm : admitT ws l = (1, 0) := by unfold admitT; rw [if_pos (Or.inr (by omega))]
      have HAD := hidden hadm
      have h8i : (8 : Int) < (n : Int) := by omega
      clear h hA hc hadm hn
      go_enter Tryz.func28, Tryz.ntmps28
      go_wp2_with fail
      exact bodyPost_ret (v := .tuple #[.slice none 0 0, .int .i64 1, .int .i64 0]) (by simp [results, Tryz.results28, go_sem]) rfl (AdmPost.err HAD.out (by decide) rfl (Below.refl _ _))
    · have h8i : ¬ (8 : Int) < (n : Int) := by omega
      obtain ⟨tg, rfl, htg, hc⟩ : ∃ tg, ta = some ⟨tg, 0, none⟩ ∧ tg < w.heap.size ∧ ∀ (j : Nat) (u : Value), (l.flatMap TK.cells)[j]? = some u → w.cell? ⟨tg, j, none⟩ = some u := hc.resolve_left h0
      have hadm : admitT ws l = match scanW ws l 0 with
          | some (e, k) => (e, k)
          | none => match lateP (loadsT ws l) l l.length 0 with
            | some k => (11, k)
            | none => (0, 0) := by unfold admitT; rw [if_neg (by omega)]; rfl
      have HAD := hidden hadm; have HNL := hidden hn; have HAL := hidden hA
      have HTC := hidden (fun (w' : World) (hb : Below w.heap.size w w') (k : Nat) (hk : k < l.length) => (show w'.cell? ⟨tg, k * 4, none⟩ = some (.string l[k].word) ∧ w'.cell? ⟨tg, k * 4 + 1, none⟩ = some (.int .i64 l[k].per) ∧ w'.cell? ⟨tg, k * 4 + 2, none⟩ = some (.int .i64 l[k].dl) ∧ w'.cell? ⟨tg, k * 4 + 3, none⟩ = some (.int .i64 l[k].off) from by
        have q : ∀ m u, m < 4 → (l[k].cells)[m]? = some u → w'.cell? ⟨tg, k * 4 + m, none⟩ = some u := fun m u hm hu => by
          rw [hb.cell (p := ⟨tg, k * 4 + m, none⟩) htg]
          refine hc _ _ ?_
          rw [flat_get TK.cells 4 (fun _ => rfl) l k m hk hm]; exact hu
        exact ⟨by have := q 0 _ (by omega) rfl; simpa using this, q 1 _ (by omega) rfl, q 2 _ (by omega) rfl, q 3 _ (by omega) rfl⟩))
      have HPR := hidden (fun (t : TK) (w' : World) (hb : Below w.heap.size w w') => rates_price t (h.below hb) hl hA)
      have hm1 := make_rows (P := Tryz.prog) 125 128 ldz #[.int .i64 0, .int .i64 0] 2 16 rfl Tryz.underlying125 Tryz.infoLd n (by omega) (by omega)
      obtain ⟨lg, hlg⟩ : ∃ lg, lg = w.heap.size := ⟨_, rfl⟩
      obtain ⟨W, hW⟩ : ∃ W : World, W = w.alloc (.cells (madeCells #[.int .i64 0, .int .i64 0] (n * 2)) 128 (0, 0)) := ⟨_, rfl⟩
      have hbW : Below w.heap.size w W := by rw [hW]; exact (Below.refl _ _).alloc (Nat.le_refl _) _
      have hrW : W.ownsRow w.heap.size 128 2 (.slice (some ⟨lg, 0, none⟩) n n) n (madeCells #[.int .i64 0, .int .i64 0] (n * 2)).toList := by
        rw [hW, hlg]; exact World.ownsRow_lit w _ n (Nat.le_refl _) (by unfold maxLen; omega) (size_madeCells _ _)
      have HW := hidden hW; have HLG := hidden hlg; have HBW := hidden hbW; have HRW := hidden hrW
      clear h hA hc hadm hn hW hlg hbW hrW
      go_enter Tryz.func28, Tryz.ntmps28
      go_upto_region 4 with fail
      rw [← HW.out, ← HLG.out]
      clear hm1
      go_wp2_with fail
      go_loopw [32] (fun i wr => ∃ (k : Nat) (ys : List Value), k ≤ n ∧ i = .int .i64 k ∧ Hid (wr.ownsRow w.heap.size 128 2 (.slice (some ⟨lg, 0, none⟩) n n) n ys ∧ ∀ j, j < k * 2 → ys[j]? = ((loadsT ws l).flatMap ldC)[j]?) ∧ Hid (scanW ws l 0 = scanW ws (l.drop k) k) ∧ Hid (Below w.heap.size w wr)) (fun i _ => n - (intOf i).toNat)
      case atStart => exact ⟨0, _, Nat.zero_le _, rfl, hidden ⟨HRW.out, fun j hj => by omega⟩, hidden rfl, HBW⟩
      case round =>
        clear HRW HBW HW
        obtain ⟨k, ys, hk, rfl, HY, HS, HB⟩ := hrel
        by_cases hlt : k < n
        · have hli : (k : Int) < (n : Int) := by omega
          have hl0 : (0 : Int) ≤ (k : Int) := by omega
          have hkl : k < l.length := by rw [← HNL.out]; exact hlt
          obtain ⟨t, ht⟩ : ∃ t, t = l[k] := ⟨_, rfl⟩
          have q := HTC.out wr HB.out k hkl
          rw [← ht] at q
          obtain ⟨q0, q1, q2, q3⟩ := q
          obtain ⟨X, hX⟩ : ∃ X : World, X = wr.alloc (.cells #[.string t.word, .int .i64 t.per, .int .i64 t.dl, .int .i64 t.off] 67 (0, 0)) := ⟨_, rfl⟩
          obtain ⟨tb, htb⟩ : ∃ tb, tb = wr.heap.size := ⟨_, rfl⟩
          have hbX : Below w.heap.size w X := by rw [hX]; exact HB.out.alloc HB.out.size _
          have hkX : Blk X tb #[.string t.word, .int .i64 t.per, .int .i64 t.dl, .int .i64 t.off] 67 := by rw [hX, htb]; exact blk_new wr _ _
          have hrX : X.ownsRow w.heap.size 128 2 (.slice (some ⟨lg, 0, none⟩) n n) n ys := by rw [hX]; exact HY.out.1.alloc _
          have x0 : X.cell? ⟨tb, 0, none⟩ = some (.string t.word) := hkX.cell 0 _ rfl
          have x1 : X.cell? ⟨tb, 1, none⟩ = some (.int .i64 t.per) := hkX.cell 1 _ rfl
          have x2 : X.cell? ⟨tb, 2, none⟩ = some (.int .i64 t.dl) := hkX.cell 2 _ rfl
          have x3 : X.cell? ⟨tb, 3, none⟩ = some (.int .i64 t.off) := hkX.cell 3 _ rfl
          have hscan := scan_at (ws := ws) hkl
          rw [← ht, ← HS.out] at hscan
          have hlk : ((loadsT ws l).flatMap ldC)[k * 2]? = some (.int .i64 (findI ws t.word).1.steps) ∧ ((loadsT ws l).flatMap ldC)[k * 2 + 1]? = some (.int .i64 t.per) := by
            have hkL : k < (loadsT ws l).length := by simpa [loadsT] using hkl
            have e : (loadsT ws l)[k] = ((findI ws t.word).1.steps, t.per) := by simp [loadsT, ht]
            have a0 := flat_get ldC 2 (fun _ => rfl) (loadsT ws l) k 0 hkL (by omega)
            have a1 := flat_get ldC 2 (fun _ => rfl) (loadsT ws l) k 1 hkL (by omega)
            rw [e] at a0 a1
            exact ⟨by simpa [ldC] using a0, by simpa [ldC] using a1⟩
          have HPT := hidden (HPR.out t X hbX)
          obtain ⟨E, hE⟩ : ∃ E, E = wrongT ws t := ⟨_, rfl⟩
          obtain ⟨P, hP⟩ : ∃ P, P = priceT ws t := ⟨_, rfl⟩
          rw [← hE, ← hP] at HPT
          rw [← hE] at hscan
          have hPE : E = 0 → P = (findI ws t.word).1.steps := fun e => by rw [hP, priceT, if_pos (by rw [← hE]; exact e)]
          have HX := hidden hX; have HTB := hidden htb; have HBX := hidden hbX; have HKX := hidden hkX; have HRX := hidden hrX; have HSC := hidden hscan; have HLK := hidden hlk; have HPE := hidden hPE; have HY2 := hidden HY.out.2
          unfold TK.val at HPT
          clear hX htb hbX hkX hrX hscan hlk hPE ht hE hP HY HS
          go_upto_region 7 with fail
          rw [← HX.out, ← HTB.out]
          clear q0 q1 q2 q3
          go_wp2_with fail
          refine HPT.out.mono ?_
          rintro e w2 ⟨rfl, hb2⟩
          have hk2 := HKX.out.sub hb2 HKX.out.lt
          have z1 : w2.cell? ⟨tb, 1, none⟩ = some (.int .i64 t.per) := hk2.cell 1 _ rfl
          have hr2 := ownsRow_chg HRX.out (Chg.ofBelow (S := fun _ => False) hb2) (fun _ _ => id)
          have HB2 := hidden (HBX.out.trans (hb2.mono HBX.out.size)); have HR2 := hidden hr2
          have htb2 := hk2.lt
          clear hb2 hk2 hr2 HPT x0 x1 x2 x3
          by_cases hE0 : E = 0
          · have hEn : (E != 0) = false := by simp [hE0]
            obtain ⟨lg', cap', hv, _, hlgt, _, _, hcc⟩ := row_cells HR2.out (by omega)
            obtain ⟨rfl, rfl⟩ : lg = lg' ∧ n = cap' := by simpa using hv
            have hyl : ys.length = n * 2 := HR2.out.1
            obtain ⟨y0, hy0⟩ : ∃ x, ys[k * 2]? = some x := ⟨_, List.getElem?_eq_getElem (by omega)⟩
            obtain ⟨y1, hy1⟩ : ∃ x, ys[k * 2 + 1]? = some x := ⟨_, List.getElem?_eq_getElem (by omega)⟩
            have e0 : w2.cell? ⟨lg, k * 2, none⟩ = some y0 := hcc _ _ hy0
            have e1 : w2.cell? ⟨lg, k * 2 + 1, none⟩ = some y1 := hcc _ _ hy1
            have f0 := row_free' HR2.out (k * 2); have f1 := row_free' HR2.out (k * 2 + 1)
            have HYL := hidden hyl
            clear hv hcc hy0 hy1 hyl
            go_wp2_with fail
            go_roundw
            case rel =>
              have hlk := HLK.out
              rw [← HPE.out hE0] at hlk
              refine ⟨k + 1, (ys.set (k * 2) (.int .i64 P)).set (k * 2 + 1) (.int .i64 t.per), by omega, by go_num, hidden ⟨ownsRow_set (ownsRow_set HR2.out (k * 2) _) (k * 2 + 1) _, set2_pre hlt HYL.out HY2.out hlk.1 hlk.2⟩, hidden ?_, hidden ((HB2.out.setCell (by show w.heap.size ≤ lg; have := HLG.out; omega) _).setCell (by show w.heap.size ≤ lg; have := HLG.out; omega) _)⟩
              rw [HSC.out, if_neg (by simp [hE0])]
            case measure => simp [intOf]; omega
          · have hEn : (E != 0) = true := by simp [hE0]
            have hfin : Hid (admitT ws l = (E, k)) := by
              show admitT ws l = _
              rw [HAD.out, HSC.out, if_pos hE0]
            clear HSC HAD
            go_wp2_with fail
            exact bodyPost_ret (v := .tuple #[.slice none 0 0, .int .i64 E, .int .i64 k]) (by simp [results, Tryz.results28, go_sem]) rfl (AdmPost.err hfin.out hE0 rfl HB2.out)
        · obtain rfl : k = n := by omega
          have hli : ¬ (k : Int) < (k : Int) := by omega
          have hsn : scanW ws l 0 = none := by rw [HS.out, List.drop_eq_nil_of_le (by have := HNL.out; omega)]; rfl
          have hys : ys = (loadsT ws l).flatMap ldC := eq_of_pre HY.out.1.1 (by rw [flat_length ldC 2 (fun _ => rfl)]; simp [loadsT]; have := HNL.out; omega) HY.out.2
          have hrow : wr.ownsRow w.heap.size 128 2 (.slice (some ⟨lg, 0, none⟩) k k) k ((loadsT ws l).flatMap ldC) := by rw [← hys]; exact HY.out.1
          have hwr := scanW_none hsn
          obtain ⟨ls, hls⟩ : ∃ ls, ls = loadsT ws l := ⟨_, rfl⟩
          have hok : ∀ x ∈ ls, LdOk x := by rw [hls]; exact loads_ok HAL.out hwr
          have hlsl : ls.length = k := by rw [hls]; simp [loadsT]; exact HNL.out.symm
          have hfit : ∀ t ∈ l, 1 ≤ t.dl ∧ t.dl ≤ 1000000 := fun t ht => by
            have := hwr t ht
            unfold wrongT at this
            split at this
            · contradiction
            · split at this
              · exact absurd this (by decide)
              · rename_i h1
                have h1 : t.Fits := Classical.byContradiction h1
                obtain ⟨_, _, a, b, _⟩ := h1; omega
          have hadm2 := HAD.out
          rw [hsn] at hadm2
          simp only at hadm2
          rw [← hls] at hadm2 hrow
          have HAD2 := hidden hadm2; have HLR := hidden hrow; have HOK := hidden hok; have HLL := hidden hlsl; have HFT := hidden hfit; have HLS := hidden hls
          clear hsn hys hrow hwr hok hlsl hfit hadm2 hls HY HS HAD HPR
          have hm2 := make_rows (P := Tryz.prog) 57 133 (.agg #[.int .i64 0, .int .i64 0, .int .i64 0]) #[.int .i64 0, .int .i64 0, .int .i64 0] 3 24 rfl Tryz.underlying57 plz_info k (by omega) (by omega)
          obtain ⟨pg, hpg⟩ : ∃ pg, pg = wr.heap.size := ⟨_, rfl⟩
          obtain ⟨V, hV⟩ : ∃ V : World, V = wr.alloc (.cells (madeCells #[.int .i64 0, .int .i64 0, .int .i64 0] (k * 3)) 133 (0, 0)) := ⟨_, rfl⟩
          have hbV : Below w.heap.size w V := by rw [hV]; exact HB.out.alloc HB.out.size _
          have hrV : V.ownsRow w.heap.size 133 3 (.slice (some ⟨pg, 0, none⟩) k k) k (madeCells #[.int .i64 0, .int .i64 0, .int .i64 0] (k * 3)).toList := by
            rw [hV, hpg]; exact World.ownsRow_lit wr _ k HB.out.size (by unfold maxLen; omega) (size_madeCells _ _)
          have hlV : V.ownsRow w.heap.size 128 2 (.slice (some ⟨lg, 0, none⟩) k k) k (ls.flatMap ldC) := by rw [hV]; exact HLR.out.alloc _
          have HV := hidden hV; have HPG := hidden hpg; have HBV := hidden hbV; have HRV := hidden hrV; have HLV := hidden hlV
          have hlgp : lg < pg := by have := own_lt HLR.out (k := lg) rfl; omega
          have hwpg : w.heap.size ≤ pg := by have := HB.out.size; omega
          clear hV hpg hbV hrV hlV HB HLR
          go_upto_region 13 with fail
          rw [← HV.out, ← HPG.out]
          clear hm2
          go_wp2_with fail
          go_loopw [60] (fun i wr => ∃ (m : Nat) (ys : List Value), m ≤ k ∧ i = .int .i64 m ∧ Hid (wr.ownsRow w.heap.size 133 3 (.slice (some ⟨pg, 0, none⟩) k k) k ys ∧ ∀ j, j < m * 3 → ys[j]? = (plansTo ls l k)[j]?) ∧ Hid (wr.ownsRow w.heap.size 128 2 (.slice (some ⟨lg, 0, none⟩) k k) k (ls.flatMap ldC)) ∧ Hid (lateP ls l l.length 0 = lateP ls l (k - m) m) ∧ Hid (Below w.heap.size w wr)) (fun i _ => k - (intOf i).toNat)
          case atStart => exact ⟨0, _, Nat.zero_le _, rfl, hidden ⟨HRV.out, fun j hj => by omega⟩, HLV, hidden (by rw [← HNL.out]; rfl), HBV⟩
          case round =>
            clear HRV HBV HV HLV
            obtain ⟨m, ys, hm, rfl, HY, HL2, HS, HB⟩ := hrel
            by_cases hlt : m < k
            · have hli : (m : Int) < (k : Int) := by omega
              have hl0 : (0 : Int) ≤ (m : Int) := by omega
              have hkl : m < l.length := by rw [← HNL.out]; exact hlt
              obtain ⟨t, ht⟩ : ∃ t, t = l[m] := ⟨_, rfl⟩
              have q := HTC.out wr HB.out m hkl
              rw [← ht] at q
              obtain ⟨q0, q1, q2, q3⟩ := q
              have hdl := HFT.out t (by rw [ht]; exact List.getElem_mem hkl)
              obtain ⟨X, hX⟩ : ∃ X : World, X = wr.alloc (.cells #[.string t.word, .int .i64 t.per, .int .i64 t.dl, .int .i64 t.off] 67 (0, 0)) := ⟨_, rfl⟩
              obtain ⟨tb, htb⟩ : ∃ tb, tb = wr.heap.size := ⟨_, rfl⟩
              have hbX : Below w.heap.size w X := by rw [hX]; exact HB.out.alloc HB.out.size _
              have hkX : Blk X tb #[.string t.word, .int .i64 t.per, .int .i64 t.dl, .int .i64 t.off] 67 := by rw [hX, htb]; exact blk_new wr _ _
              have hrX : X.ownsRow w.heap.size 133 3 (.slice (some ⟨pg, 0, none⟩) k k) k ys := by rw [hX]; exact HY.out.1.alloc _
              have hlX : X.ownsRow w.heap.size 128 2 (.slice (some ⟨lg, 0, none⟩) k k) k (ls.flatMap ldC) := by rw [hX]; exact HL2.out.alloc _
              obtain ⟨c, hcc⟩ : ∃ c, c = costAt ls m := ⟨_, rfl⟩
              have e0 := (ld_cells hlX (k := m) (by have := HLL.out; omega) HLL.out).1
              rw [← hcc] at e0
              have hco := ld_at HOK.out (k := m) (by have := HLL.out; omega)
              rw [← hcc] at hco
              obtain ⟨hc1, hc2, _, _⟩ := hco
              simp only at hc1 hc2
              have HAH := hidden (fun (w' : World) (hb : Below X.heap.size X w') => rates_ahead ls lg k k m w' (ownsRow_chg hlX (Chg.ofBelow (S := fun _ => False) hb) (fun _ _ => id)) HLL.out (by omega) hlt)
              have hlate := lateP_at ls l (k - m - 1) m
              rw [show k - m - 1 + 1 = k - m by omega, ← HS.out] at hlate
              have HX := hidden hX; have HTB := hidden htb; have HBX := hidden hbX; have HKX := hidden hkX; have HRX := hidden hrX; have HLX := hidden hlX; have HLT := hidden hlate; have HCC := hidden hcc; have HY2 := hidden HY.out.2; have HT := hidden ht
              have htbX := hkX.lt
              clear hX htb hbX hkX hrX hlX hlate hcc ht HY HS HL2
              go_upto_region 16 with fail
              rw [← HX.out, ← HTB.out]
              clear q0 q1 q2 q3
              have hlgX : lg < X.heap.size := own_lt HLX.out (k := lg) rfl
              have k0 : ∀ u : {w' : World // Below X.heap.size X w'}, u.val.cell? ⟨lg, m * 2, none⟩ = some (.int .i64 c) := fun u => (u.property.cell (p := ⟨lg, m * 2, none⟩) hlgX).trans e0
              have hne : Nonempty {w' : World // Below X.heap.size X w'} := ⟨⟨X, Below.refl _ _⟩⟩
              clear e0
              refine wp_region_turns (C := OneOf fun w' => Below X.heap.size X w') 8 [7] ⟨X.drew, (Below.refl _ X).drew⟩ (by kernel_rfl) (by kernel_rfl) rfl ?_
              rw [show List.range 8 = [0, 1, 2, 3, 4, 5, 6, 7] from rfl]
              repeat (refine wpT_step rfl rfl (fun K hK => ?_); go_simp; refine hK _ ?_; clear hK K)
              refine wpT_call1 rfl rfl 54 #[.slice (some ⟨lg, 0, none⟩) k k, .int .i64 m] (by go_simp) ((HAH.out _ (Below.refl _ X).drew).mono ?_)
              rintro e w2 ⟨ua, uc, rfl, hr2, hb2⟩
              have hbX2 : Below X.heap.size X w2 := (Below.refl _ X).drew.trans hb2
              refine ⟨_, rfl, hbX2, wpT_end ?_⟩
              intro w' hw'
              rw [show w' = w2 from hw']
              clear hw' w'
              obtain ⟨ah, hah⟩ : ∃ ah, ah = aheadP ls m k := ⟨_, rfl⟩
              rw [← hah] at hr2 ⊢
              have hahl : ah.length ≤ 8 := by rw [hah]; have := aheadP_len ls m k; omega
              have hahk : ∀ x ∈ ah, LdOk x := by rw [hah]; exact ahead_ok HOK.out m k (by have := HLL.out; omega)
              have hDD : (fun r => c + within r ah) = demandT ls m := by
                funext r; unfold demandT; rw [HCC.out, hah, HLL.out]
              have HRS := hidden (fun (w' : World) (hb : Below w2.heap.size w2 w') => rates_respond c t.dl ah (.slice ua ah.length uc) w' (ownsRow_chg hr2 (Chg.ofBelow (S := fun _ => False) hb) (fun _ _ => id)) hahk hahl hc1 hc2 hdl.1 hdl.2)
              rw [hDD] at HRS
              obtain ⟨R, hR⟩ : ∃ R, R = respT (demandT ls m) t.dl := ⟨_, rfl⟩
              rw [← hR] at HRS
              have hRa : respAt ls l m = R := by
                rw [hR, HT.out]; unfold respAt; congr 1
                simp [hkl]
              have hpl : (planAt ls l m) = [.int .i64 c, .int .i64 (ah.length : Int), .int .i64 R] := by
                unfold planAt; rw [hRa, ← HCC.out, HLL.out, ← hah]
              have hkt2 := HKX.out.sub hbX2 HKX.out.lt
              have z2 : w2.cell? ⟨tb, 2, none⟩ = some (.int .i64 t.dl) := hkt2.cell 2 _ rfl
              have hrp2 := ownsRow_chg HRX.out (Chg.ofBelow (S := fun _ => False) hbX2) (fun _ _ => id)
              have hrl2 := ownsRow_chg HLX.out (Chg.ofBelow (S := fun _ => False) hbX2) (fun _ _ => id)
              have hbw2 := HBX.out.trans (hbX2.mono HBX.out.size)
              have hlate2 := HLT.out
              rw [hRa] at hlate2
              have HLT2 := hidden hlate2; have HPL := hidden hpl; have HP2 := hidden hrp2; have HL3 := hidden hrl2; have HB2 := hidden hbw2
              obtain ⟨A, hAA⟩ : ∃ A, A = ah.length := ⟨_, rfl⟩
              rw [← hAA] at HRS HPL ⊢
              have hA8 : A ≤ 8 := by omega
              have htb2 := hkt2.lt
              have HRS2 := hidden (HRS.out w2 (Below.refl _ _))
              clear hr2 hb2 hbX2 hah hahl hahk hDD hR hRa hpl hkt2 hrp2 hrl2 hbw2 hlate2 hAA HRS k0 hne HAH HRX HLX HLT HKX hdl hc1 hc2
              simp only [List.drop_succ_cons, List.drop_zero]
              go_wp2_with fail
              refine HRS2.out.mono ?_
              rintro e w3 ⟨rfl, hb3⟩
              have hrp3 := ownsRow_chg HP2.out (Chg.ofBelow (S := fun _ => False) hb3) (fun _ _ => id)
              have hrl3 := ownsRow_chg HL3.out (Chg.ofBelow (S := fun _ => False) hb3) (fun _ _ => id)
              have HP3 := hidden hrp3; have HL4 := hidden hrl3; have HB3 := hidden (HB2.out.trans (hb3.mono HB2.out.size))
              clear hrp3 hrl3 hb3 HRS2 HP2 HL3 HB2 z2
              by_cases hR0 : R = 0
              · have hd : decide (R ≠ 0) = false := by simp [hR0]
                have hfin : Hid (admitT ws l = (11, m)) := by
                  show admitT ws l = _
                  rw [HAD2.out, HLT2.out, if_pos hR0]
                rw [hd]
                clear HLT2 HAD2 hd
                go_wp2_with fail
                exact bodyPost_ret (v := .tuple #[.slice none 0 0, .int .i64 11, .int .i64 m]) (by simp [results, Tryz.results28, go_sem]) rfl (AdmPost.err hfin.out (by decide) rfl HB3.out)
              · have hd : decide (R ≠ 0) = true := by simp [hR0]
                rw [hd]
                obtain ⟨pg', cap', hv, _, hpgt, _, _, hcc⟩ := row_cells HP3.out (by omega)
                obtain ⟨rfl, rfl⟩ : pg = pg' ∧ k = cap' := by simpa using hv
                have hyl : ys.length = k * 3 := HP3.out.1
                obtain ⟨y0, hy0⟩ : ∃ x, ys[m * 3]? = some x := ⟨_, List.getElem?_eq_getElem (by omega)⟩
                obtain ⟨y1, hy1⟩ : ∃ x, ys[m * 3 + 1]? = some x := ⟨_, List.getElem?_eq_getElem (by omega)⟩
                obtain ⟨y2, hy2⟩ : ∃ x, ys[m * 3 + 2]? = some x := ⟨_, List.getElem?_eq_getElem (by omega)⟩
                have e0 : w3.cell? ⟨pg, m * 3, none⟩ = some y0 := hcc _ _ hy0
                have e1 : w3.cell? ⟨pg, m * 3 + 1, none⟩ = some y1 := hcc _ _ hy1
                have e2 : w3.cell? ⟨pg, m * 3 + 2, none⟩ = some y2 := hcc _ _ hy2
                have f0 := row_free' HP3.out (m * 3); have f1 := row_free' HP3.out (m * 3 + 1); have f2 := row_free' HP3.out (m * 3 + 2)
                have HYL := hidden hyl
                clear hv hcc hy0 hy1 hy2 hyl hd
                go_wp2_with fail
                go_roundw
                case rel =>
                  have p0 := plans_get ls l k m 0 hlt (by omega)
                  have p1 := plans_get ls l k m 1 hlt (by omega)
                  have p2 := plans_get ls l k m 2 hlt (by omega)
                  rw [HPL.out] at p0 p1 p2
                  refine ⟨m + 1, ((ys.set (m * 3) (.int .i64 c)).set (m * 3 + 1) (.int .i64 A)).set (m * 3 + 2) (.int .i64 R), by omega, by go_num, hidden ⟨ownsRow_set (ownsRow_set (ownsRow_set HP3.out (m * 3) _) (m * 3 + 1) _) (m * 3 + 2) _, set3_pre hlt HYL.out HY2.out (by simpa using p0) (by simpa using p1) (by simpa using p2)⟩, hidden ?_, hidden ?_, hidden (((HB3.out.setCell hwpg _).setCell hwpg _).setCell hwpg _)⟩
                  · refine ownsRow_chg HL4.out ((((Chg.refl (fun b => b = pg) w3).setCell (p := ⟨pg, m * 3, none⟩) rfl _).setCell (p := ⟨pg, m * 3 + 1, none⟩) rfl _).setCell (p := ⟨pg, m * 3 + 2, none⟩) rfl _) (fun b hb e => ?_)
                    have : lg = b := by simpa [Value.ownBlock] using hb
                    omega
                  · rw [HLT2.out, if_neg hR0]; congr 1
                case measure => simp [intOf]; omega
            · obtain rfl : m = k := by omega
              have hli : ¬ (m : Int) < (m : Int) := by omega
              have hys : ys = plansTo ls l m := eq_of_pre HY.out.1.1 (plansTo_len ls l m) HY.out.2
              have hrow : wr.ownsRow w.heap.size 133 3 (.slice (some ⟨pg, 0, none⟩) m m) m (plansTo ls l m) := by rw [← hys]; exact HY.out.1
              have hlate := HS.out
              rw [Nat.sub_self] at hlate
              have hadm := HAD2.out
              rw [hlate] at hadm
              have hadm : admitT ws l = (0, 0) := hadm
              have HRW := hidden hrow; have HAA := hidden hadm
              clear hys hrow hlate hadm HY HS HAD2
              go_wp2_with fail
              refine bodyPost_ret (v := .tuple #[.slice (some ⟨pg, 0, none⟩) m m, .int .i64 0, .int .i64 0]) (by simp [results, Tryz.results28, go_sem]) rfl ⟨⟨some ⟨pg, 0, none⟩, m, m, ?_, fun e => ?_, fun e => ⟨HNL.out, by omega, by omega, ?_⟩⟩, HB.out⟩
              · rw [HAA.out]; rfl
              · rw [HAA.out] at e; exact absurd rfl e
              · rw [← HLS.out]; exact HRW.out

end Go.Proofs.YtcphhbofjkenaaaGreatDoor

/- The document's answer: Admit. -/
namespace Go.Proofs.YtcphhbofjkenaaaGreatDoor
open Go Go.RowKit
set_option linter.unusedVariables false
set_option linter.unusedSimpArgs false

theorem fits_of {ws : List RW} {t : TK} (h : wrongT ws t = 0) : t.Fits := by
  unfold wrongT at h
  split at h
  · contradiction
  · split at h
    · exact absurd h (by decide)
    · rename_i h1; exact Classical.byContradiction h1

set_option maxRecDepth 100000 in
set_option maxHeartbeats 8000000 in
theorem ref_response {sb : Nat} {sv : Value} {ws : List RW} {c k' : Int} {es : List PE} (l : List TK) (pb po cap k : Nat) (w : World) (h : RefSys w sb sv ws c k') (hl : ws.length ≤ 1100000) (hA : Alike es ws) (ht : TasksAt w pb po l) (hn : l.length ≤ cap) (h8 : l.length ≤ 8) (hk : k < l.length) (hw : ∀ t ∈ l, wrongT ws t = 0) :
    Calls Tryz.prog 135 #[.pointer (some ⟨sb, 0, none⟩), .slice (some ⟨pb, po, none⟩) l.length cap, .int .i64 k] w fun e w' => e = .returned (.int .i64 (respAt (loadsT ws l) l k)) ∧ Below w.heap.size w w' := by
  obtain ⟨ls, hls⟩ : ∃ ls, ls = loadsT ws l := ⟨_, rfl⟩
  have hok : ∀ x ∈ ls, LdOk x := by rw [hls]; exact loads_ok hA hw
  have hll : ls.length = l.length := by rw [hls]; simp [loadsT]
  have HDM := hidden (fun (r : Int) (w' : World) (hb : Below w.heap.size w w') (h0 : 0 ≤ r) (h1 : r ≤ 1000000) => ref_demand l pb po cap k r w' (h.chg (Chg.ofBelow (S := fun _ => False) hb) id (fun _ _ => id)) hl hA (ht.below hb ht.1) hn h8 hk hw h0 h1)
  rw [← hls] at HDM ⊢
  have hft := fits_of (hw l[k] (List.getElem_mem hk))
  have HTC := hidden (fun (w' : World) (hb : Below w.heap.size w w') => ((ht.below hb ht.1).cells k hk).2.2.1)
  obtain ⟨dl, hdl⟩ : ∃ d, d = l[k].dl := ⟨_, rfl⟩
  rw [← hdl] at HTC
  have hd1 : 1 ≤ dl ∧ dl ≤ 1000000 := by obtain ⟨_, a, b, c, _⟩ := hft; omega
  obtain ⟨D, hD⟩ : ∃ D, D = demandT ls k := ⟨_, rfl⟩
  have hmono : ∀ a b, a ≤ b → D a ≤ D b := fun a b h => by rw [hD]; exact demand_mono hok k h
  have hbd : ∀ r, 0 ≤ r → r ≤ 1000000 → 1 ≤ D r ∧ D r ≤ 9000000000000000 := fun r a b => by rw [hD]; exact demand_bd hok (by omega) (by omega) a b
  rw [← hD] at HDM
  obtain ⟨R, hR⟩ : ∃ R, R = respAt ls l k := ⟨_, rfl⟩
  rw [← hR]
  have hR2 : R = respT D dl := by rw [hR, hD]; unfold respAt; congr 1; simp [hk, hdl]
  have hpb := ht.1
  have hsb := h.blk.lt
  have HMO := hidden hmono; have HBD := hidden hbd; have HR := hidden hR2
  obtain ⟨n, hnn⟩ : ∃ n, n = l.length := ⟨_, rfl⟩
  rw [← hnn] at hn h8 hk HDM ⊢
  obtain ⟨hd1, hd2⟩ := hd1
  have hki : (k : Int) < (n : Int) := by omega
  have hk0 : (0 : Int) ≤ (k : Int) := by omega
  clear h hA ht hw hok hll hR hR2 hnn hls hmono hbd hD hdl hft
  go_enter Tryz.func135, Tryz.ntmps135
  go_wp2_with fail
  go_loopw [7] (fun i wr => ∃ (r : Int) (f : Nat), i = .int .i64 r ∧ 1 ≤ r ∧ r ≤ 9000000000000000 ∧ Hid (R = respG D dl f r ∧ dl - r < f ∧ r ≤ D r) ∧ Hid (Below w.heap.size w wr)) (fun i _ => (dl + 1 - intOf i).toNat)
  case atStart =>
    exact ⟨1, dl.toNat + 1, rfl, by omega, by omega, hidden ⟨HR.out, by omega, (HBD.out 1 (by omega) (by omega)).1⟩, Below.refl _ _⟩
  case round =>
    clear HR
    obtain ⟨r, f, rfl, h1, h2, HF, HB⟩ := hrel
    have hc2 := HTC.out wr HB.out
    by_cases hle : r ≤ dl
    · have HWR := hidden (HDM.out r wr HB.out (by omega) (by omega))
      obtain ⟨x, hx⟩ : ∃ x, x = D r := ⟨_, rfl⟩
      rw [← hx] at HWR
      have hbd := HBD.out r (by omega) (by omega)
      rw [← hx] at hbd
      obtain ⟨hb1, hb2⟩ := hbd
      have HDX := hidden hx.symm
      clear hx
      go_wp2_with fail
      refine HWR.out.mono ?_
      rintro e w2 ⟨rfl, hb⟩
      have HB2 := hidden (HB.out.trans (hb.mono HB.out.size))
      clear hb HWR hc2
      by_cases he : x = r
      · have hfin : Hid (R = r) := by
          show R = r
          obtain ⟨a, b, _⟩ := HF.out
          obtain ⟨f', rfl⟩ : ∃ f', f = f' + 1 := ⟨f - 1, by omega⟩
          rw [a, respG, if_pos hle, if_pos (by rw [HDX.out]; exact he)]
        have he' : (x == r) = true := by simp [he]
        have HE := hidden he
        clear he
        go_wp2_with fail
        rw [hfin.out]
        go_ret
        exact ⟨rfl, HB2.out⟩
      · have he' : (x == r) = false := by simp [he]
        obtain ⟨a, b, cc⟩ := HF.out
        have hst := resp_step HMO.out b cc hle (by rw [HDX.out]; exact he)
        rw [HDX.out] at hst
        have HST := hidden hst; have HA := hidden a
        clear hst a b cc HF
        go_wp2_with fail
        go_roundw
        case rel =>
          obtain ⟨f', rfl, s1, s2, s3, s4⟩ := HST.out
          exact ⟨x, f', rfl, hb1, hb2, hidden ⟨by rw [HA.out, s1], s2, s3⟩, HB2⟩
        case measure =>
          obtain ⟨f', rfl, s1, s2, s3, s4⟩ := HST.out
          simp [intOf]; omega
    · have hfin : Hid (R = 0) := by
        show R = 0
        obtain ⟨a, b, _⟩ := HF.out
        rw [a]
        cases f with
        | zero => rfl
        | succ f => rw [respG, if_neg hle]
      clear HF
      go_wp2_with fail
      rw [hfin.out]
      go_ret
      exact ⟨rfl, HB.out⟩

set_option maxRecDepth 100000 in
set_option maxHeartbeats 16000000 in
theorem ref_admit {sb : Nat} {sv : Value} {ws : List RW} {c k' : Int} {es : List PE} (l : List TK) (ta : Option Addr) (n cap : Nat) (w : World) (h : RefSys w sb sv ws c k') (hl : ws.length ≤ 1100000) (hA : Alike es ws) (hn : n = l.length) (hnc : n ≤ cap) (hnb : n ≤ 1100000)
    (hc : (n = 0) ∨ ∃ pb po, ta = some ⟨pb, po, none⟩ ∧ TasksAt w pb po l) :
    Calls Tryz.prog 100 #[.pointer (some ⟨sb, 0, none⟩), .slice ta n cap] w (AdmPost w ws l) := by
  have hbb := h.blk.lt
  by_cases h0 : n = 0
  · have hadm : admitT ws l = (1, 0) := by unfold admitT; rw [if_pos (Or.inl (by omega))]
    have HAD := hidden hadm
    have hz : (n : Int) < 1 := by omega
    clear h hA hc hadm hn
    subst h0
    go_enter Tryz.func100, Tryz.ntmps100
    go_wp2_with fail
    exact bodyPost_ret (v := .tuple #[.slice none 0 0, .int .i64 1, .int .i64 0]) (by simp [results, Tryz.results100, go_sem]) rfl (AdmPost.err HAD.out (by decide) rfl (Below.refl _ _))
  · have hz : ¬ (n : Int) < 1 := by omega
    by_cases h8 : 8 < n
    · have hadm : admitT ws l = (1, 0) := by unfold admitT; rw [if_pos (Or.inr (by omega))]
      have HAD := hidden hadm
      have h8i : (8 : Int) < (n : Int) := by omega
      clear h hA hc hadm hn
      go_enter Tryz.func100, Tryz.ntmps100
      go_wp2_with fail
      exact bodyPost_ret (v := .tuple #[.slice none 0 0, .int .i64 1, .int .i64 0]) (by simp [results, Tryz.results100, go_sem]) rfl (AdmPost.err HAD.out (by decide) rfl (Below.refl _ _))
    · have h8i : ¬ (8 : Int) < (n : Int) := by omega
      obtain ⟨pb, po, rfl, ht⟩ : ∃ pb po, ta = some ⟨pb, po, none⟩ ∧ TasksAt w pb po l := hc.resolve_left h0
      have hadm : admitT ws l = match scanW ws l 0 with
          | some (e, k) => (e, k)
          | none => match lateP (loadsT ws l) l l.length 0 with
            | some k => (11, k)
            | none => (0, 0) := by unfold admitT; rw [if_neg (by omega)]; rfl
      have HAD := hidden hadm; have HNL := hidden hn; have HAL := hidden hA
      have HTC := hidden (fun (w' : World) (hb : Below w.heap.size w w') (k : Nat) (hk : k < l.length) => (ht.below hb ht.1).cells k hk)
      have HWR := hidden (fun (t : TK) (w' : World) (hb : Below w.heap.size w w') => ref_wrong t w' (h.chg (Chg.ofBelow (S := fun _ => False) hb) id (fun _ _ => id)) hl)
      have HRS := hidden (fun (w' : World) (hb : Below w.heap.size w w') (k : Nat) (hk : k < l.length) (hw : ∀ t ∈ l, wrongT ws t = 0) => ref_response l pb po cap k w' (h.chg (Chg.ofBelow (S := fun _ => False) hb) id (fun _ _ => id)) hl hA (ht.below hb ht.1) (by omega) (by omega) hk hw)
      have HAH := hidden (fun (w' : World) (hb : Below w.heap.size w w') (i k : Nat) (hi : i < l.length) (hk : k < l.length) => (show Calls Tryz.prog 136 #[.slice (some ⟨pb, po, none⟩) l.length cap, .int .i64 i, .int .i64 k] w' fun e w2 => e = .returned (.bool (goesP (loadsT ws l) i k)) ∧ Below w'.heap.size w' w2 from by
        rw [← goes_eq ws l i k hi hk]; exact ref_ahead w' pb po cap l i k (ht.below hb ht.1) (by omega) (by omega) hi hk))
      have HFI := hidden (fun (w' : World) (hb : Below w.heap.size w w') (i : Nat) (hi : i < l.length) => (show ∃ b1 b2 b3 b5 f, Calls Tryz.prog 66 #[.pointer (some ⟨sb, 0, none⟩), .string l[i].word] w' fun e w2 => e = .returned (.tuple #[.agg #[.int .i64 b1, .int .i64 b2, .int .i64 b3, .int .i64 (costAt (loadsT ws l) i), .bool b5], .int .i64 f]) ∧ Below w'.heap.size w' w2 from by
        have := ref_Find l[i].word w' (h.chg (Chg.ofBelow (S := fun _ => False) hb) id (fun _ _ => id)) hl
        have hc : (findI ws l[i].word).1.steps = costAt (loadsT ws l) i := by simp [costAt, loadsT, hi]
        obtain ⟨⟨⟨b1, b2, b3, b4, b5⟩, f⟩, hF⟩ : ∃ F, F = findI ws l[i].word := ⟨_, rfl⟩
        rw [← hF] at this hc
        simp only [Inf.val] at this hc
        rw [hc] at this
        exact ⟨b1, b2, b3, b5, f, this⟩))
      rw [← hn] at HRS HAH
      have hpb := ht.1
      clear h hA hc hadm hn ht
      go_enter Tryz.func100, Tryz.ntmps100
      go_wp2_with fail
      go_loopw [7] (fun i wr => ∃ (k : Nat), k ≤ n ∧ i = .int .i64 k ∧ Hid (scanW ws l 0 = scanW ws (l.drop k) k) ∧ Hid (Below w.heap.size w wr)) (fun i _ => n - (intOf i).toNat)
      case atStart => exact ⟨0, Nat.zero_le _, rfl, hidden rfl, Below.refl _ _⟩
      case round =>
        obtain ⟨k, hk, rfl, HS, HB⟩ := hrel
        by_cases hlt : k < n
        · have hli : (k : Int) < (n : Int) := by omega
          have hl0 : (0 : Int) ≤ (k : Int) := by omega
          have hkl : k < l.length := by rw [← HNL.out]; exact hlt
          obtain ⟨t, ht⟩ : ∃ t, t = l[k] := ⟨_, rfl⟩
          have q := HTC.out wr HB.out k hkl
          rw [← ht] at q
          obtain ⟨q0, q1, q2, q3⟩ := q
          have hscan := scan_at (ws := ws) hkl
          rw [← ht, ← HS.out] at hscan
          have HWT := hidden (HWR.out t wr HB.out)
          obtain ⟨E, hE⟩ : ∃ E, E = wrongT ws t := ⟨_, rfl⟩
          rw [← hE] at HWT hscan
          unfold TK.val at HWT
          have HSC := hidden hscan
          have hpr : pb < wr.heap.size := Nat.lt_of_lt_of_le hpb HB.out.size
          clear hscan ht hE HS
          go_wp2_with fail
          refine HWT.out.mono ?_
          rintro e w2 ⟨rfl, hb2⟩
          have HB2 := hidden (HB.out.trans (hb2.mono HB.out.size))
          clear hb2 HWT q0 q1 q2 q3
          by_cases hE0 : E = 0
          · have hEn : (E != 0) = false := by simp [hE0]
            go_wp2_with fail
            go_roundw
            case rel => exact ⟨k + 1, by omega, by go_num, hidden (by rw [HSC.out, if_neg (by simp [hE0])]), HB2⟩
            case measure => simp [intOf]; omega
          · have hEn : (E != 0) = true := by simp [hE0]
            have hfin : Hid (admitT ws l = (E, k)) := by
              show admitT ws l = _
              rw [HAD.out, HSC.out, if_pos hE0]
            clear HSC HAD
            go_wp2_with fail
            exact bodyPost_ret (v := .tuple #[.slice none 0 0, .int .i64 E, .int .i64 k]) (by simp [results, Tryz.results100, go_sem]) rfl (AdmPost.err hfin.out hE0 rfl HB2.out)
        · obtain rfl : k = n := by omega
          have hli : ¬ (k : Int) < (k : Int) := by omega
          have hsn : scanW ws l 0 = none := by rw [HS.out, List.drop_eq_nil_of_le (by have := HNL.out; omega)]; rfl
          have hwr := scanW_none hsn
          obtain ⟨ls, hls⟩ : ∃ ls, ls = loadsT ws l := ⟨_, rfl⟩
          have hlsl : ls.length = k := by rw [hls]; simp [loadsT]; exact HNL.out.symm
          have hadm2 := HAD.out
          rw [hsn] at hadm2
          simp only at hadm2
          rw [← hls] at hadm2 HRS HAH HFI
          have HRR := hidden (fun (w' : World) (hb : Below w.heap.size w w') (i : Nat) (hi : i < k) => HRS.out w' hb i hi hwr)
          have HAD2 := hidden hadm2; have HLL := hidden hlsl; have HLS := hidden hls
          obtain ⟨i0, hi, hz0, hz1, hz2⟩ := info_parts plz_info
          have HI := hidden (And.intro hi (And.intro hz0 (And.intro hz1 hz2)))
          clear hsn hwr hlsl hadm2 hls HS HAD HWR HRS hi hz0 hz1 hz2
          go_wp2_with fail
          go_loopw [9, 10] (fun s i wr => ∃ (m : Nat) (ua : Option Addr) (uc : Nat), m ≤ k ∧ i = .int .i64 m ∧ s = .slice ua m uc ∧ Hid (wr.ownsRow w.heap.size 133 3 (.slice ua m uc) m (plansTo ls l m)) ∧ Hid (lateP ls l l.length 0 = lateP ls l (k - m) m) ∧ Hid (Below w.heap.size w wr)) (fun _ i _ => k - (intOf i).toNat)
          case atStart => exact ⟨0, none, 0, Nat.zero_le _, rfl, rfl, hidden ⟨rfl, Or.inl ⟨rfl, rfl⟩⟩, hidden (by rw [← HNL.out]; rfl), HB⟩
          case round =>
            clear HB
            obtain ⟨m, ua, uc, hm, rfl, rfl, HU, HS, HB⟩ := hrel
            by_cases hlt : m < k
            · have hli : (m : Int) < (k : Int) := by omega
              have hl0 : (0 : Int) ≤ (m : Int) := by omega
              have hml : m < l.length := by rw [← HNL.out]; exact hlt
              have HRM := hidden (HRR.out wr HB.out m hlt)
              obtain ⟨R, hR⟩ : ∃ R, R = respAt ls l m := ⟨_, rfl⟩
              have hlate := lateP_at ls l (k - m - 1) m
              rw [show k - m - 1 + 1 = k - m by omega, ← HS.out] at hlate
              rw [← hR] at hlate HRM
              have HLT := hidden hlate; have HRE := hidden hR
              clear hlate hR HS
              go_wp2_with fail
              refine HRM.out.mono ?_
              rintro e w2 ⟨rfl, hb2⟩
              have hU2 := ownsRow_chg HU.out (Chg.ofBelow (S := fun _ => False) hb2) (fun _ _ => id)
              have HB2 := hidden (HB.out.trans (hb2.mono HB.out.size)); have HU2 := hidden hU2
              clear hb2 hU2 HRM HU HB
              by_cases hR0 : R = 0
              · have hd : (R == 0) = true := by simp [hR0]
                have hfin : Hid (admitT ws l = (11, m)) := by
                  show admitT ws l = _
                  rw [HAD2.out, HLT.out, if_pos hR0]
                have HR0 := hidden hR0
                clear HLT HAD2 hR0
                go_wp2_with fail
                exact bodyPost_ret (v := .tuple #[.slice none 0 0, .int .i64 11, .int .i64 m]) (by simp [results, Tryz.results100, go_sem]) rfl (AdmPost.err hfin.out (by decide) rfl HB2.out)
              · have hd : (R == 0) = false := by simp [hR0]
                go_wp2_with fail
                go_loopw [12, 13] (fun s i wr => ∃ (j A : Nat), j ≤ k ∧ i = .int .i64 j ∧ s = .int .i64 A ∧ Hid (A = (aheadP ls m j).length) ∧ Hid (Below w2.heap.size w2 wr)) (fun _ i _ => k - (intOf i).toNat)
                case atStart => exact ⟨0, 0, Nat.zero_le _, rfl, rfl, hidden rfl, Below.refl _ _⟩
                case round =>
                  obtain ⟨j, A, hj, rfl, rfl, HAA, HBB⟩ := hrel
                  have hBw := HB2.out.trans (HBB.out.mono HB2.out.size)
                  have hAj : A ≤ j := by have := HAA.out; have := aheadP_len ls m j; omega
                  by_cases hjk : j < k
                  · have hji : (j : Int) < (k : Int) := by omega
                    have hj0 : (0 : Int) ≤ (j : Int) := by omega
                    have hjl : j < l.length := by rw [← HNL.out]; exact hjk
                    have HAJ := hidden (HAH.out wr hBw j m hjk hlt)
                    obtain ⟨g, hg⟩ : ∃ g, g = goesP ls j m := ⟨_, rfl⟩
                    rw [← hg] at HAJ
                    have hsu : (aheadP ls m (j + 1)).length = if g = true then A + 1 else A := by
                      rw [aheadP, ← hg, HAA.out]
                      split <;> simp
                    have HSU := hidden hsu
                    clear hg hsu HAA
                    go_wp2_with fail
                    refine HAJ.out.mono ?_
                    rintro e w3 ⟨rfl, hb3⟩
                    have HB3 := hidden (HBB.out.trans (hb3.mono HBB.out.size))
                    clear hb3 HAJ HBB
                    cases g with
                    | false =>
                      go_wp2_with fail
                      go_roundw
                      case rel => exact ⟨j + 1, A, by omega, by go_num, rfl, hidden (by rw [HSU.out, if_neg (by decide)]), HB3⟩
                      case measure => simp [intOf]; omega
                    | true =>
                      go_wp2_with fail
                      go_roundw
                      case rel => exact ⟨j + 1, A + 1, by omega, by go_num, by go_num, hidden (by rw [HSU.out]; simp), HB3⟩
                      case measure => simp [intOf]; omega
                  · obtain rfl : j = k := by omega
                    have hji : ¬ (j : Int) < (j : Int) := by omega
                    have q := (HTC.out wr hBw m hml).1
                    obtain ⟨s, hs⟩ : ∃ s, s = l[m].word := ⟨_, rfl⟩
                    obtain ⟨b1, b2, b3, b5, f, hfm⟩ := HFI.out wr hBw m hml
                    rw [← hs] at q hfm
                    obtain ⟨cm, hcm⟩ : ∃ c, c = costAt ls m := ⟨_, rfl⟩
                    rw [← hcm] at hfm
                    have hpl : planAt ls l m = [.int .i64 cm, .int .i64 (A : Int), .int .i64 R] := by
                      unfold planAt; rw [HLL.out, ← HAA.out, ← hcm, ← HRE.out]
                    have HFM := hidden hfm; have HPL := hidden hpl; have HBW := hidden hBw
                    have hpr : pb < wr.heap.size := Nat.lt_of_lt_of_le hpb hBw.size
                    clear hs hfm hcm hpl hBw HAA
                    go_wp2_with fail
                    refine HFM.out.mono ?_
                    rintro e w3 ⟨rfl, hb3⟩
                    obtain ⟨Y, hY⟩ : ∃ Y : World, Y = w3.alloc (.cells #[.int .i64 b1, .int .i64 b2, .int .i64 b3, .int .i64 cm, .bool b5] 36 (0, 0)) := ⟨_, rfl⟩
                    obtain ⟨ib, hib⟩ : ∃ ib, ib = w3.heap.size := ⟨_, rfl⟩
                    have hbY : Below wr.heap.size wr Y := by rw [hY]; exact hb3.alloc hb3.size _
                    have hkY : Blk Y ib #[.int .i64 b1, .int .i64 b2, .int .i64 b3, .int .i64 cm, .bool b5] 36 := by rw [hY, hib]; exact blk_new w3 _ _
                    have z3 : Y.cell? ⟨ib, 3, none⟩ = some (.int .i64 cm) := hkY.cell 3 _ rfl
                    have hBY := HBW.out.trans (hbY.mono HBW.out.size)
                    have hUY := ownsRow_chg HU2.out (Chg.ofBelow (S := fun _ => False) (HBB.out.trans (hbY.mono HBB.out.size))) (fun _ _ => id)
                    have HY := hidden hY; have HIB := hidden hib; have HBY := hidden hBY
                    have HUY := hidden (hUY.alloc (.cells #[.int .i64 cm, .int .i64 A, .int .i64 R] 133 (0, 0)))
                    have HNW := hidden (newsA Y #[.int .i64 cm, .int .i64 A, .int .i64 R] 133)
                    have HSZ := hidden (show w.heap.size ≤ (Y.alloc (.cells #[.int .i64 cm, .int .i64 A, .int .i64 R] 133 (0, 0))).heap.size by have := hBY.size; simp; omega)
                    have HON := hidden (show ∀ u ∈ ([.int .i64 cm, .int .i64 A, .int .i64 R] : List Value), u.oneCell' = true by intro u hu; simp at hu; rcases hu with rfl | rfl | rfl <;> rfl)
                    have HQ1 := hidden (And.intro (show m + 1 ≤ maxLen by unfold maxLen; omega) (show (m + 1) * 24 ≤ 140737488355328 by omega))
                    have HHS := hidden (show (Y.alloc (.cells #[.int .i64 cm, .int .i64 A, .int .i64 R] 133 (0, 0))).heap.size = Y.heap.size + 1 by simp)
                    have hiby := hkY.lt
                    clear hY hib hbY hkY hBY hUY hb3 HFM q
                    go_upto_region 24 with fail
                    rw [← HY.out, ← HIB.out]
                    go_wp2_with (at_builtin; refine wpList_append_lies _ rfl _ _ 57 rfl w.heap.size 133 i0 (.agg #[.int .i64 0, .int .i64 0, .int .i64 0]) 3 24 Tryz.underlying57 HI.out.1 HI.out.2.1 HI.out.2.2.1 HI.out.2.2.2 rfl (by decide) (.slice ua m uc) m (plansTo ls l m) rfl HUY.out ⟨Y.heap.size, 0, none⟩ 1 1 [.int .i64 cm, .int .i64 A, .int .i64 R] rfl rfl HNW.out HON.out (by decide) HQ1.out.1 HQ1.out.2 HSZ.out (Y.heap.size + 1) HHS.out ?_)
                    intro g2 cap2 w5 hr5 hg5 hat5 hlt5
                    have hb5 : Below w.heap.size w w5 := (HBY.out.alloc HBY.out.size _).grown hg5 HSZ.out (fun b hb => own_base HUY.out hb)
                    have HR5 := hidden hr5; have HB5 := hidden hb5
                    clear hr5 hg5 hat5 hlt5 hb5 z3
                    go_wp2_with fail
                    go_roundw
                    case rel =>
                      refine ⟨m + 1, some ⟨g2, 0, none⟩, cap2, by omega, by go_num, rfl, hidden ?_, hidden ?_, HB5⟩
                      · rw [plansTo, HPL.out]; exact HR5.out
                      · rw [HLT.out, if_neg hR0]; congr 1
                    case measure => simp [intOf]; omega
            · obtain rfl : m = k := by omega
              have hli : ¬ (m : Int) < (m : Int) := by omega
              have hlate := HS.out
              rw [Nat.sub_self] at hlate
              have hadm := HAD2.out
              rw [hlate] at hadm
              have hadm : admitT ws l = (0, 0) := hadm
              have HAA := hidden hadm
              clear hlate hadm HS HAD2
              go_wp2_with fail
              refine bodyPost_ret (v := .tuple #[.slice ua m uc, .int .i64 0, .int .i64 0]) (by simp [results, Tryz.results100, go_sem]) rfl ⟨⟨ua, m, uc, ?_, fun e => ?_, fun e => ⟨HNL.out, by omega, by omega, ?_⟩⟩, HB.out⟩
              · rw [HAA.out]; rfl
              · rw [HAA.out] at e; exact absurd rfl e
              · rw [← HLS.out]; exact HU.out

end Go.Proofs.YtcphhbofjkenaaaGreatDoor

/- The law: tasks that are lent, and looked at behind the call. -/
namespace Go.Proofs.YtcphhbofjkenaaaGreatDoor
open Go Go.RowKit
set_option linter.unusedVariables false
set_option linter.unusedSimpArgs false

/-- What lies behind the tasks. -/
def beyondT : TK := ⟨⟨#[98, 101, 121, 111, 110, 100]⟩, 0, 0, 0⟩
def lentT (l : List TK) : List Value := (l ++ List.replicate 8 beyondT).flatMap TK.cells
theorem lentT_len (l : List TK) : (lentT l).length = (l.length + 8) * 4 := by unfold lentT; rw [taskC_len]; simp
theorem lentT_pre (l : List TK) (j : Nat) (h : j < l.length * 4) : (lentT l)[j]? = (l.flatMap TK.cells)[j]? := by
  unfold lentT; rw [List.flatMap_append, List.getElem?_append_left (by rw [taskC_len]; exact h)]
theorem lentT_at (l : List TK) (k m : Nat) (hk : k < l.length + 8) (hm : m < 4) : (lentT l)[k * 4 + m]? = (if h : k < l.length then l[k].cells else beyondT.cells)[m]? := by
  unfold lentT
  rw [flat_get TK.cells 4 (fun _ => rfl) (l ++ List.replicate 8 beyondT) k m (by simp; omega) hm]
  split
  · rename_i h; rw [List.getElem_append_left h]
  · rename_i h; rw [List.getElem_append_right (by omega), List.getElem_replicate]

/-- A copy of things of more cells than one. -/
theorem run_copy_rows {P : Program} (w : World) (dT sT ty elem : TypeId) (g dLen dCap : Nat) (a : Addr) (sLen sCap : Nat) (cur : Array Value) (t : TypeId) (cs : List Value) (size m : Nat)
    (hu : P.underlying dT = some (.slice elem)) (hs : (P.info? elem).map (·.size) = some size)
    (hg : w.heap[g]? = some (.cells cur t (0, 0))) (hm : Nat.min sLen dLen = m) (hn : cs.length = m * size)
    (hsrc : ∀ j v, cs[j]? = some v → w.cell? (a.add j) = some v) (hfit : cs.length ≤ cur.size) (h1 : ∀ v ∈ cs, v.oneCell' = true) :
    (Builtin.copy_ #[dT, sT] ty #[.slice (some ⟨g, 0, none⟩) dLen dCap, .slice (some a) sLen sCap]).run P w =
      .ok (goInt m) (w.setRow g (cs ++ cur.toList.drop cs.length).toArray) := by
  have hl := run_loadCells_list (P := P) w a cs hsrc
  have hst := run_storeCells_at P g 0 t cs 0 cur w hg (by simpa using hfit) h1
  cases hq : P.info? elem with
  | none => simp [hq] at hs
  | some i =>
    have hi : i.size = size := by simpa [hq] using hs
    simp [Builtin.copy_, run_underlying hu, Builtin.lenOf, Builtin.firstCells, sizeOf, typeInfo, hq, hi, hm, ← hn, hl, hst]

theorem add_block (p : Addr) (n : Nat) : (p.add n).block = p.block := by unfold Addr.add; split <;> rfl

def tkz : Value := .agg #[.string ByteArray.empty, .int .i64 0, .int .i64 0, .int .i64 0]
theorem Tryz.infoTask : (Tryz.prog.info? 67).map (fun i => (i.zero, i.size, i.bytes)) = some (some tkz, 4, 40) := by kernel_rfl

theorem make_rows8 {P : Program} (t e : TypeId) (z : Value) (zc : Array Value) (size bytes : Nat) (hzc : z.cells = zc) (ht : P.underlying t = some (.slice e)) (hinfo : (P.info? e).map (fun i => (i.zero, i.size, i.bytes)) = some (some z, size, bytes)) (n : Nat) (hbytes : bytes * (n + 8) ≤ 281474976710656) (h63 : n + 8 ≤ 9223372036854775807) (w : World) :
    (Instr.makeSlice t (.int .i64 ((n : Int) + 8)) (.int .i64 ((n : Int) + 8))).run P w = .ok (.slice (some ⟨w.heap.size, 0, none⟩) (n + 8) (n + 8)) (w.alloc (.cells (madeCells zc ((n + 8) * size)) e)) :=
  make_rows t e z zc size bytes hzc ht hinfo (n + 8) hbytes h63 w

theorem tkC_one (l : List TK) : ∀ u ∈ l.flatMap TK.cells, u.oneCell' = true := by
  intro u hu
  obtain ⟨x, _, hu⟩ := List.mem_flatMap.1 hu
  simp [TK.cells] at hu
  rcases hu with rfl | rfl | rfl | rfl <;> rfl

theorem set4_pre {ys xs : List Value} {k n : Nat} {a b c d : Value} (hk : k < n) (hl : ys.length = n * 4) (h : ∀ j, j < k * 4 → ys[j]? = xs[j]?) (ha : xs[k * 4]? = some a) (hb : xs[k * 4 + 1]? = some b) (hc : xs[k * 4 + 2]? = some c) (hd : xs[k * 4 + 3]? = some d) :
    ∀ j, j < (k + 1) * 4 → ((((ys.set (k * 4) a).set (k * 4 + 1) b).set (k * 4 + 2) c).set (k * 4 + 3) d)[j]? = xs[j]? := by
  intro j hj
  by_cases e3 : j = k * 4 + 3
  · subst e3; rw [List.getElem?_set_self (by simp; omega), hd]
  · rw [List.getElem?_set_ne (by omega)]
    by_cases e2 : j = k * 4 + 2
    · subst e2; rw [List.getElem?_set_self (by simp; omega), hc]
    · rw [List.getElem?_set_ne (by omega)]
      by_cases e1 : j = k * 4 + 1
      · subst e1; rw [List.getElem?_set_self (by simp; omega), hb]
      · rw [List.getElem?_set_ne (by omega)]
        by_cases e0 : j = k * 4
        · subst e0; rw [List.getElem?_set_self (by omega), ha]
        · rw [List.getElem?_set_ne (by omega)]; exact h j (by omega)
theorem set4_suf {ys xs : List Value} {k : Nat} {a b c d : Value} (h : ∀ j, k * 4 ≤ j → ys[j]? = xs[j]?) :
    ∀ j, (k + 1) * 4 ≤ j → ((((ys.set (k * 4) a).set (k * 4 + 1) b).set (k * 4 + 2) c).set (k * 4 + 3) d)[j]? = xs[j]? := by
  intro j hj
  rw [List.getElem?_set_ne (by omega), List.getElem?_set_ne (by omega), List.getElem?_set_ne (by omega), List.getElem?_set_ne (by omega)]
  exact h j (by omega)

set_option maxRecDepth 100000 in
set_option maxHeartbeats 8000000 in
theorem law_lentTasks (w : World) (p : Addr) (n cap : Nat) (l : List TK) (hn : n = l.length) (hb : n ≤ 1100000) (hnc : n ≤ cap) (hs : ∀ (j : Nat) (u : Value), (l.flatMap TK.cells)[j]? = some u → p.block < w.heap.size ∧ w.cell? (p.add j) = some u) :
    Calls Tryz.prog 99 #[.slice (some p) n cap] w fun e w' => ∃ tg, e = .returned (.slice (some ⟨tg, 0, none⟩) n (n + 8)) ∧ w.heap.size ≤ tg ∧ w'.ownsRow w.heap.size 67 4 (.slice (some ⟨tg, 0, none⟩) (n + 8) (n + 8)) (n + 8) (lentT l) ∧ Below w.heap.size w w' := by
  have hmk := make_rows8 (P := Tryz.prog) 55 67 tkz #[.string ByteArray.empty, .int .i64 0, .int .i64 0, .int .i64 0] 4 40 rfl Tryz.underlying55 Tryz.infoTask n (by omega) (by omega)
  obtain ⟨tg, htg⟩ : ∃ tg, tg = w.heap.size := ⟨_, rfl⟩
  obtain ⟨X, hX⟩ : ∃ X : World, X = w.alloc (.cells (madeCells #[.string ByteArray.empty, .int .i64 0, .int .i64 0, .int .i64 0] ((n + 8) * 4)) 67 (0, 0)) := ⟨_, rfl⟩
  have hbX : Below w.heap.size w X := by rw [hX]; exact (Below.refl _ _).alloc (Nat.le_refl _) _
  have hgX : X.heap[tg]? = some (.cells (madeCells #[.string ByteArray.empty, .int .i64 0, .int .i64 0, .int .i64 0] ((n + 8) * 4)) 67 (0, 0)) := by rw [hX, htg]; exact heap_alloc_new w _
  have hsX : ∀ (j : Nat) (u : Value), (l.flatMap TK.cells)[j]? = some u → X.cell? (p.add j) = some u := fun j u hu => by
    rw [hbX.cell (by rw [add_block]; exact (hs j u hu).1)]; exact (hs j u hu).2
  have hsz : (Tryz.prog.info? 67).map (·.size) = some 4 := by
    obtain ⟨i, hi, _, h4, _⟩ := info_parts Tryz.infoTask
    rw [hi]; simp [h4]
  have HTG := hidden htg; have HX := hidden hX; have HBX := hidden hbX; have HGX := hidden hgX; have HSX := hidden hsX; have HSZ := hidden hsz; have HN := hidden hn
  have HL4 := hidden (show (l.flatMap TK.cells).length = n * 4 by rw [taskC_len, hn])
  have HFI := hidden (show (l.flatMap TK.cells).length ≤ (madeCells #[.string ByteArray.empty, .int .i64 0, .int .i64 0, .int .i64 0] ((n + 8) * 4)).size by rw [size_madeCells, taskC_len, ← hn]; omega)
  have HON := hidden (tkC_one l)
  have HMM := hidden (show Nat.min n (n + 8) = n from Nat.min_eq_left (by omega))
  obtain ⟨lc, hlc⟩ : ∃ lc, lc = l.flatMap TK.cells := ⟨_, rfl⟩
  rw [← hlc] at HSX HL4 HFI HON
  have HLC := hidden hlc
  clear htg hX hbX hgX hsX hsz hs hn hlc
  have hnl := fun w => Lib.run_eql_slice_nil (P := Tryz.prog) w 55 67 (some p) n cap 0 0 Tryz.underlying55
  simp only [Option.isNone_some] at hnl
  go_enter Tryz.func99, Tryz.ntmps99
  go_upto_region 5 with fail
  rw [← HX.out, ← HTG.out]
  clear hmk hnl
  obtain ⟨w2, hw2⟩ : ∃ w2 : World, w2 = X.setRow tg (lc ++ (madeCells #[.string ByteArray.empty, .int .i64 0, .int .i64 0, .int .i64 0] ((n + 8) * 4)).toList.drop lc.length).toArray := ⟨_, rfl⟩
  have hcp := run_copy_rows (P := Tryz.prog) X 55 55 3 67 tg (n + 8) (n + 8) p n cap _ 67 lc 4 n Tryz.underlying55 HSZ.out HGX.out HMM.out HL4.out HSX.out HFI.out HON.out
  rw [← hw2] at hcp
  have hg2 : w2.heap[tg]? = some (.cells (lc ++ (madeCells #[.string ByteArray.empty, .int .i64 0, .int .i64 0, .int .i64 0] ((n + 8) * 4)).toList.drop lc.length).toArray 67 (0, 0)) := by rw [hw2]; exact setRow_heap X tg _ _ _ _ HGX.out
  have hc2 : Chg (fun b => b = tg) X w2 := by rw [hw2]; exact ⟨rfl, rfl, rfl, by simp [World.setRow], fun k hk hne => setRow_other X tg k _ (fun e => hne e)⟩
  clear hw2
  have hb2 : Below w.heap.size w w2 := HBX.out.trans (hc2.toBelow (by rw [← HTG.out]; exact Nat.le_of_lt (Array.getElem?_eq_some_iff.1 HGX.out).1) (fun b hb e => by have := HTG.out; omega))
  have hrow2 : w2.ownsRow w.heap.size 67 4 (.slice (some ⟨tg, 0, none⟩) (n + 8) (n + 8)) (n + 8) (lc ++ (madeCells #[.string ByteArray.empty, .int .i64 0, .int .i64 0, .int .i64 0] ((n + 8) * 4)).toList.drop lc.length) := by
    have hsz2 : (lc ++ (madeCells #[.string ByteArray.empty, .int .i64 0, .int .i64 0, .int .i64 0] ((n + 8) * 4)).toList.drop lc.length).length = (n + 8) * 4 := by
      have e1 : (madeCells #[.string ByteArray.empty, .int .i64 0, .int .i64 0, .int .i64 0] ((n + 8) * 4)).toList.length = (n + 8) * 4 := by rw [Array.length_toList, size_madeCells]
      rw [List.length_append, List.length_drop, e1, HL4.out]; omega
    refine ⟨hsz2, Or.inr ⟨tg, n + 8, _, rfl, by have := HTG.out; omega, hg2, Nat.le_refl _, by unfold maxLen; omega, by rw [List.size_toArray]; exact hsz2, ?_⟩⟩
    rw [List.toList_toArray]; exact List.take_of_length_le (by omega)
  have hpre : ∀ j, j < n * 4 → (lc ++ (madeCells #[.string ByteArray.empty, .int .i64 0, .int .i64 0, .int .i64 0] ((n + 8) * 4)).toList.drop lc.length)[j]? = (lentT l)[j]? := fun j hj => by
    rw [List.getElem?_append_left (by rw [HL4.out]; exact hj), HLC.out, lentT_pre l j (by rw [← HN.out]; exact hj)]
  have HB2 := hidden hb2; have HR2 := hidden hrow2; have HP2 := hidden hpre
  clear hg2 hc2 hb2 hrow2 hpre HGX HSX
  go_wp2_with fail
  clear hcp
  go_loopw [5] (fun i wr => ∃ (k : Nat) (ys : List Value), n ≤ k ∧ k ≤ n + 8 ∧ i = .int .i64 k ∧ Hid (wr.ownsRow w.heap.size 67 4 (.slice (some ⟨tg, 0, none⟩) (n + 8) (n + 8)) (n + 8) ys ∧ ∀ j, j < k * 4 → ys[j]? = (lentT l)[j]?) ∧ Hid (Below w.heap.size w wr)) (fun i _ => n + 8 - (intOf i).toNat)
  case atStart => exact ⟨n, _, Nat.le_refl _, by omega, rfl, hidden ⟨HR2.out, HP2.out⟩, HB2⟩
  case round =>
    clear HR2 HP2 HB2
    obtain ⟨k, ys, hk1, hk2, rfl, HY, HB⟩ := hrel
    by_cases hlt : k < n + 8
    · have hli : (k : Int) < (n : Int) + 8 := by omega
      have hl0 : (0 : Int) ≤ (k : Int) := by omega
      have hkn : (k : Int) ≤ 2000000 := by omega
      obtain ⟨tg', cap', hv, _, htgl, _, _, hcc⟩ := row_cells HY.out.1 (by omega)
      obtain ⟨rfl, rfl⟩ : tg = tg' ∧ n + 8 = cap' := by simpa using hv
      have hyl : ys.length = (n + 8) * 4 := HY.out.1.1
      obtain ⟨y0, hy0⟩ : ∃ x, ys[k * 4]? = some x := ⟨_, List.getElem?_eq_getElem (by omega)⟩
      obtain ⟨y1, hy1⟩ : ∃ x, ys[k * 4 + 1]? = some x := ⟨_, List.getElem?_eq_getElem (by omega)⟩
      obtain ⟨y2, hy2⟩ : ∃ x, ys[k * 4 + 2]? = some x := ⟨_, List.getElem?_eq_getElem (by omega)⟩
      obtain ⟨y3, hy3⟩ : ∃ x, ys[k * 4 + 3]? = some x := ⟨_, List.getElem?_eq_getElem (by omega)⟩
      have e0 : wr.cell? ⟨tg, k * 4, none⟩ = some y0 := hcc _ _ hy0
      have e1 : wr.cell? ⟨tg, k * 4 + 1, none⟩ = some y1 := hcc _ _ hy1
      have e2 : wr.cell? ⟨tg, k * 4 + 2, none⟩ = some y2 := hcc _ _ hy2
      have e3 : wr.cell? ⟨tg, k * 4 + 3, none⟩ = some y3 := hcc _ _ hy3
      have f0 := row_free' HY.out.1 (k * 4); have f1 := row_free' HY.out.1 (k * 4 + 1); have f2 := row_free' HY.out.1 (k * 4 + 2); have f3 := row_free' HY.out.1 (k * 4 + 3)
      have HYL := hidden hyl
      clear hv hcc hy0 hy1 hy2 hy3 hyl
      go_wp2_with fail
      go_roundw
      case rel =>
        have q := fun m (hm : m < 4) => lentT_at l k m (by rw [← HN.out]; exact hlt) hm
        have hnl : ¬ k < l.length := by rw [← HN.out]; omega
        simp only [dif_neg hnl] at q
        have hwt : w.heap.size ≤ tg := by have := HTG.out; omega
        refine ⟨k + 1, (((ys.set (k * 4) (.string ⟨#[98, 101, 121, 111, 110, 100]⟩)).set (k * 4 + 1) (.int .i64 0)).set (k * 4 + 2) (.int .i64 0)).set (k * 4 + 3) (.int .i64 0), by omega, by omega, by go_num, hidden ⟨ownsRow_set (ownsRow_set (ownsRow_set (ownsRow_set HY.out.1 (k * 4) _) (k * 4 + 1) _) (k * 4 + 2) _) (k * 4 + 3) _, set4_pre hlt HYL.out HY.out.2 (q 0 (by omega)) (q 1 (by omega)) (q 2 (by omega)) (q 3 (by omega))⟩, hidden ((((HB.out.setCell hwt _).setCell hwt _).setCell hwt _).setCell hwt _)⟩
      case measure => simp [intOf]; omega
    · obtain rfl : k = n + 8 := by omega
      have hys : ys = lentT l := eq_of_pre HY.out.1.1 (by rw [lentT_len, ← HN.out]) HY.out.2
      have hrow := HY.out.1
      rw [hys] at hrow
      have HRW := hidden hrow
      clear hys hrow HY
      have hli : ¬ ((n : Int) + 8 < (n : Int) + 8) := by omega
      go_wp2_with fail
      go_ret
      exact ⟨tg, rfl, by have := HTG.out; omega, HRW.out, HB.out⟩

theorem law_lentTasks0 (w : World) : Calls Tryz.prog 99 #[.slice none 0 0] w fun e w' => e = .returned (.slice none 0 0) ∧ Below w.heap.size w w' := by
  have hnl := fun w => Lib.run_eql_slice_nil (P := Tryz.prog) w 55 67 none 0 0 0 0 Tryz.underlying55
  simp only [Option.isNone_none] at hnl
  go_enter Tryz.func99, Tryz.ntmps99
  go_wp2_with fail
  go_ret
  exact ⟨rfl, Below.refl _ _⟩

theorem law_wholeTasks0 (w : World) (o : Value) : Calls Tryz.prog 101 #[o, .slice none 0 0] w fun e w' => e = .returned (.bool true) ∧ Below w.heap.size w w' := by
  have hnl := fun w => Lib.run_eql_slice_nil (P := Tryz.prog) w 55 67 none 0 0 0 0 Tryz.underlying55
  simp only [Option.isNone_none] at hnl
  go_enter Tryz.func101, Tryz.ntmps101
  go_wp2_with fail
  go_ret
  exact ⟨rfl, Below.refl _ _⟩

set_option maxRecDepth 100000 in
set_option maxHeartbeats 16000000 in
theorem law_wholeTasks (w : World) (base tg B : Nat) (p : Addr) (n cap : Nat) (l : List TK) (hn : n = l.length) (hb : n ≤ 1100000) (hnc : n ≤ cap) (hBt : B ≤ tg) (hBw : B ≤ w.heap.size) (hs : ∀ (j : Nat) (u : Value), (l.flatMap TK.cells)[j]? = some u → p.block < B ∧ w.cell? (p.add j) = some u)
    (hr : w.ownsRow base 67 4 (.slice (some ⟨tg, 0, none⟩) (n + 8) (n + 8)) (n + 8) (lentT l)) :
    Calls Tryz.prog 101 #[.slice (some ⟨tg, 0, none⟩) n (n + 8), .slice (some p) n cap] w fun e w' => e = .returned (.bool true) ∧ Chg (fun b => b = tg) w w' := by
  have hnl := fun w => Lib.run_eql_slice_nil (P := Tryz.prog) w 55 67 (some p) n cap 0 0 Tryz.underlying55
  simp only [Option.isNone_some] at hnl
  have hsp : 0 < n → p.spot = none ∧ p.block < B := fun h0 => by
    have h4 : (l.flatMap TK.cells).length = l.length * 4 := taskC_len l
    obtain ⟨u, hu⟩ : ∃ u, (l.flatMap TK.cells)[0]? = some u := ⟨_, List.getElem?_eq_getElem (by omega)⟩
    obtain ⟨hpB, this⟩ := hs 0 u hu
    have h0 : p.add 0 = p := by simp [Addr.add]
    rw [h0] at this
    refine ⟨?_, hpB⟩
    unfold World.cell? at this
    split at this
    · split at this
      · cases this
      · rename_i h; simpa using h
    · cases this
  obtain ⟨pb, po, ps⟩ := p
  simp only at hsp
  have hta : 0 < n → ∀ (w' : World), Chg (fun b => b = tg) w w' → ∀ k (hk : k < l.length), w'.cell? ⟨pb, po + k * 4, none⟩ = some (.string l[k].word) ∧ w'.cell? ⟨pb, po + k * 4 + 1, none⟩ = some (.int .i64 l[k].per) ∧ w'.cell? ⟨pb, po + k * 4 + 2, none⟩ = some (.int .i64 l[k].dl) ∧ w'.cell? ⟨pb, po + k * 4 + 3, none⟩ = some (.int .i64 l[k].off) := fun h0 w' hc k hk => by
    obtain ⟨e, hpB⟩ := hsp h0
    subst e
    have hp : pb < w.heap.size := by omega
    have hpt : pb ≠ tg := by omega
    have ht : TasksAt w pb po l := ⟨hp, fun j u hu => by have := (hs j u hu).2; rwa [Addr.add_lit] at this⟩
    obtain ⟨a0, a1, a2, a3⟩ := ht.cells k hk
    exact ⟨(hc.cell (p := ⟨pb, po + k * 4, none⟩) hp hpt).trans a0, (hc.cell (p := ⟨pb, po + k * 4 + 1, none⟩) hp hpt).trans a1, (hc.cell (p := ⟨pb, po + k * 4 + 2, none⟩) hp hpt).trans a2, (hc.cell (p := ⟨pb, po + k * 4 + 3, none⟩) hp hpt).trans a3⟩
  have htl : tg < w.heap.size := own_lt hr (k := tg) rfl
  have HTA := hidden hta; have HSP := hidden hsp; have HN := hidden hn; have HR := hidden hr
  clear hta hsp hn hr hs
  go_enter Tryz.func101, Tryz.ntmps101
  go_wp2_with fail
  go_loopw [7, 8] (fun o i wr => o = .bool true ∧ ∃ (k : Nat) (ys : List Value), k ≤ n + 8 ∧ i = .int .i64 k ∧ Hid (wr.ownsRow base 67 4 (.slice (some ⟨tg, 0, none⟩) (n + 8) (n + 8)) (n + 8) ys ∧ ∀ j, k * 4 ≤ j → ys[j]? = (lentT l)[j]?) ∧ Hid (Chg (fun b => b = tg) w wr)) (fun _ i _ => n + 8 - (intOf i).toNat)
  case atStart => exact ⟨rfl, 0, _, by omega, rfl, hidden ⟨HR.out, fun j _ => rfl⟩, hidden (Chg.refl _ _)⟩
  case round =>
    clear HR
    obtain ⟨rfl, k, ys, hk, rfl, HY, HC⟩ := hrel
    by_cases hlt : k < n + 8
    · have hli : (k : Int) < (n : Int) + 8 := by omega
      have hl0 : (0 : Int) ≤ (k : Int) := by omega
      have hkn : (k : Int) ≤ 2000000 := by omega
      obtain ⟨t, ht⟩ : ∃ t : TK, t = if h : k < l.length then l[k] else beyondT := ⟨_, rfl⟩
      have hcell : ∀ m u, m < 4 → t.cells[m]? = some u → ys[k * 4 + m]? = some u := fun m u hm hu => by
        rw [HY.out.2 _ (by omega), lentT_at l k m (by rw [← HN.out]; exact hlt) hm, ← hu, ht]
        split <;> rfl
      obtain ⟨tg', cap', hv, _, htgl, _, _, hcc⟩ := row_cells HY.out.1 (by omega)
      obtain ⟨rfl, rfl⟩ : tg = tg' ∧ n + 8 = cap' := by simpa using hv
      obtain ⟨X, hX⟩ : ∃ X : World, X = wr.alloc (.cells #[.string ⟨#[98, 101, 121, 111, 110, 100]⟩, .int .i64 0, .int .i64 0, .int .i64 0] 67 (0, 0)) := ⟨_, rfl⟩
      obtain ⟨wb, hwb⟩ : ∃ wb, wb = wr.heap.size := ⟨_, rfl⟩
      have hcX : Chg (fun b => b = tg) w X := by rw [hX]; exact HC.out.alloc _
      have hkX : Blk X wb #[.string ⟨#[98, 101, 121, 111, 110, 100]⟩, .int .i64 0, .int .i64 0, .int .i64 0] 67 := by rw [hX, hwb]; exact blk_new wr _ _
      have hrX : X.ownsRow base 67 4 (.slice (some ⟨tg, 0, none⟩) (n + 8) (n + 8)) (n + 8) ys := by rw [hX]; exact HY.out.1.alloc _
      have hne : tg ≠ wb := by omega
      have HX := hidden hX; have HWB := hidden hwb; have HCX := hidden hcX; have HKX := hidden hkX; have HRX := hidden hrX; have HY2 := hidden HY.out.2; have HCE := hidden hcell
      clear hX hwb hcX hkX hrX hcell hcc hv HY
      go_upto_region 10 with fail
      rw [← HX.out, ← HWB.out]
      by_cases hkl : k < n
      · have hkli : (k : Int) < (n : Int) := by omega
        have hkll : k < l.length := by rw [← HN.out]; exact hkl
        obtain ⟨hps, hpB⟩ := HSP.out (by omega)
        subst hps
        have hp : pb < w.heap.size := by omega
        have hpt : pb ≠ tg := by omega
        have htk : t = l[k] := by rw [ht, dif_pos hkll]
        have q := HTA.out (by omega) X HCX.out k hkll
        rw [← htk] at q
        obtain ⟨q0, q1, q2, q3⟩ := q
        have x0 : X.cell? ⟨wb, 0, none⟩ = some (.string ⟨#[98, 101, 121, 111, 110, 100]⟩) := HKX.out.cell 0 _ rfl
        have x1 : X.cell? ⟨wb, 1, none⟩ = some (.int .i64 0) := HKX.out.cell 1 _ rfl
        have x2 : X.cell? ⟨wb, 2, none⟩ = some (.int .i64 0) := HKX.out.cell 2 _ rfl
        have x3 : X.cell? ⟨wb, 3, none⟩ = some (.int .i64 0) := HKX.out.cell 3 _ rfl
        have g0 := HKX.out.frozen 0; have g1 := HKX.out.frozen 1; have g2 := HKX.out.frozen 2; have g3 := HKX.out.frozen 3
        obtain ⟨Z, hZ⟩ : ∃ Z : World, Z = (((X.setCell ⟨wb, 0, none⟩ (.string t.word)).setCell ⟨wb, 1, none⟩ (.int .i64 t.per)).setCell ⟨wb, 2, none⟩ (.int .i64 t.dl)).setCell ⟨wb, 3, none⟩ (.int .i64 t.off) := ⟨_, rfl⟩
        have hkZ : Blk Z wb #[.string t.word, .int .i64 t.per, .int .i64 t.dl, .int .i64 t.off] 67 := by
          rw [hZ]
          have := (((HKX.out.set (o := 0) (.string t.word)).set (o := 1) (.int .i64 t.per)).set (o := 2) (.int .i64 t.dl)).set (o := 3) (.int .i64 t.off)
          simpa using this
        have hcXZ : Chg (fun b => b = wb) X Z := by
          rw [hZ]; exact ((((Chg.refl (fun b => b = wb) X).setCell (p := ⟨wb, 0, none⟩) rfl _).setCell (p := ⟨wb, 1, none⟩) rfl _).setCell (p := ⟨wb, 2, none⟩) rfl _).setCell (p := ⟨wb, 3, none⟩) rfl _
        have hrZ := ownsRow_chg HRX.out hcXZ (fun b hb e => hne (by have h : tg = b := (by simpa [Value.ownBlock] using hb); exact h.trans e))
        have hwbw : w.heap.size ≤ wb := by have := HC.out.size; have := HWB.out; omega
        have hcZ : Chg (fun b => b = tg) w Z := HCX.out.thru hcXZ (fun b hb e => by omega)
        have HZ := hidden hZ; have HKZ := hidden hkZ; have HRZ := hidden hrZ; have HCZ := hidden hcZ
        have hwbX := HKX.out.lt
        clear hZ hkZ hcXZ hrZ hcZ ht htk
        go_upto_region 12 with fail
        rw [← HZ.out]
        clear q0 q1 q2 q3 x0 x1 x2 x3 g0 g1 g2 g3
        have w0 : Z.cell? ⟨wb, 0, none⟩ = some (.string t.word) := HKZ.out.cell 0 _ rfl
        have w1 : Z.cell? ⟨wb, 1, none⟩ = some (.int .i64 t.per) := HKZ.out.cell 1 _ rfl
        have w2 : Z.cell? ⟨wb, 2, none⟩ = some (.int .i64 t.dl) := HKZ.out.cell 2 _ rfl
        have w3 : Z.cell? ⟨wb, 3, none⟩ = some (.int .i64 t.off) := HKZ.out.cell 3 _ rfl
        obtain ⟨tg', cap', hv, _, htgl, _, _, hcc⟩ := row_cells HRZ.out (by omega)
        obtain ⟨rfl, rfl⟩ : tg = tg' ∧ n + 8 = cap' := by simpa using hv
        have c0 : Z.cell? ⟨tg, k * 4, none⟩ = some (.string t.word) := hcc _ _ (HCE.out 0 _ (by omega) rfl)
        have c1 : Z.cell? ⟨tg, k * 4 + 1, none⟩ = some (.int .i64 t.per) := hcc _ _ (HCE.out 1 _ (by omega) rfl)
        have c2 : Z.cell? ⟨tg, k * 4 + 2, none⟩ = some (.int .i64 t.dl) := hcc _ _ (HCE.out 2 _ (by omega) rfl)
        have c3 : Z.cell? ⟨tg, k * 4 + 3, none⟩ = some (.int .i64 t.off) := hcc _ _ (HCE.out 3 _ (by omega) rfl)
        clear hv hcc
        go_wp2_with fail
        go_quiet (fail)
        have hbq : Below Z.heap.size Z (Z.drewN nq) := ⟨rfl, rfl, rfl, Nat.le_refl _, fun _ _ => rfl⟩
        obtain ⟨V, hV⟩ : ∃ V : World, V = Z.drewN nq := ⟨_, rfl⟩
        rw [← hV] at hbq
        rw [← hV]
        have hrV := ownsRow_chg HRZ.out (Chg.ofBelow (S := fun _ => False) hbq) (fun _ _ => id)
        have hcV := HCZ.out.trans (Chg.ofBelow hbq)
        have v0 : V.cell? ⟨tg, k * 4, none⟩ = some (.string t.word) := (hbq.cell (p := ⟨tg, k * 4, none⟩) htgl).trans c0
        have v1 : V.cell? ⟨tg, k * 4 + 1, none⟩ = some (.int .i64 t.per) := (hbq.cell (p := ⟨tg, k * 4 + 1, none⟩) htgl).trans c1
        have v2 : V.cell? ⟨tg, k * 4 + 2, none⟩ = some (.int .i64 t.dl) := (hbq.cell (p := ⟨tg, k * 4 + 2, none⟩) htgl).trans c2
        have v3 : V.cell? ⟨tg, k * 4 + 3, none⟩ = some (.int .i64 t.off) := (hbq.cell (p := ⟨tg, k * 4 + 3, none⟩) htgl).trans c3
        have f0 := row_free' hrV (k * 4); have f1 := row_free' hrV (k * 4 + 1); have f2 := row_free' hrV (k * 4 + 2); have f3 := row_free' hrV (k * 4 + 3)
        have HRV := hidden hrV; have HCV := hidden hcV
        clear hV hbq hrV hcV w0 w1 w2 w3 c0 c1 c2 c3
        go_wp2_with fail
        go_roundw
        case rel =>
          refine ⟨rfl, k + 1, (((ys.set (k * 4) (.string ⟨#[111, 116, 104, 101, 114]⟩)).set (k * 4 + 1) (.int .i64 0)).set (k * 4 + 2) (.int .i64 0)).set (k * 4 + 3) (.int .i64 0), by omega, by go_num, hidden ⟨ownsRow_set (ownsRow_set (ownsRow_set (ownsRow_set HRV.out (k * 4) _) (k * 4 + 1) _) (k * 4 + 2) _) (k * 4 + 3) _, set4_suf HY2.out⟩, hidden ((((HCV.out.setCell (p := ⟨tg, k * 4, none⟩) rfl _).setCell (p := ⟨tg, k * 4 + 1, none⟩) rfl _).setCell (p := ⟨tg, k * 4 + 2, none⟩) rfl _).setCell (p := ⟨tg, k * 4 + 3, none⟩) rfl _)⟩
        case measure => simp [intOf]; omega
      · have hkli : ¬ (k : Int) < (n : Int) := by omega
        have htk : t = beyondT := by rw [ht, dif_neg (by rw [← HN.out]; exact hkl)]
        obtain ⟨Z, hZ⟩ : ∃ Z : World, Z = X := ⟨_, rfl⟩
        have HKZ : Hid (Blk Z wb #[.string t.word, .int .i64 t.per, .int .i64 t.dl, .int .i64 t.off] 67) := by show Blk _ _ _ _; rw [hZ, htk]; exact HKX.out
        have HRZ : Hid (Z.ownsRow base 67 4 (.slice (some ⟨tg, 0, none⟩) (n + 8) (n + 8)) (n + 8) ys) := by show World.ownsRow _ _ _ _ _ _ _; rw [hZ]; exact HRX.out
        have HCZ : Hid (Chg (fun b => b = tg) w Z) := by show Chg _ _ _; rw [hZ]; exact HCX.out
        rw [← hZ]
        clear hZ htk ht
        go_upto_region 12 with fail
        have w0 : Z.cell? ⟨wb, 0, none⟩ = some (.string t.word) := HKZ.out.cell 0 _ rfl
        have w1 : Z.cell? ⟨wb, 1, none⟩ = some (.int .i64 t.per) := HKZ.out.cell 1 _ rfl
        have w2 : Z.cell? ⟨wb, 2, none⟩ = some (.int .i64 t.dl) := HKZ.out.cell 2 _ rfl
        have w3 : Z.cell? ⟨wb, 3, none⟩ = some (.int .i64 t.off) := HKZ.out.cell 3 _ rfl
        obtain ⟨tg', cap', hv, _, htgl, _, _, hcc⟩ := row_cells HRZ.out (by omega)
        obtain ⟨rfl, rfl⟩ : tg = tg' ∧ n + 8 = cap' := by simpa using hv
        have c0 : Z.cell? ⟨tg, k * 4, none⟩ = some (.string t.word) := hcc _ _ (HCE.out 0 _ (by omega) rfl)
        have c1 : Z.cell? ⟨tg, k * 4 + 1, none⟩ = some (.int .i64 t.per) := hcc _ _ (HCE.out 1 _ (by omega) rfl)
        have c2 : Z.cell? ⟨tg, k * 4 + 2, none⟩ = some (.int .i64 t.dl) := hcc _ _ (HCE.out 2 _ (by omega) rfl)
        have c3 : Z.cell? ⟨tg, k * 4 + 3, none⟩ = some (.int .i64 t.off) := hcc _ _ (HCE.out 3 _ (by omega) rfl)
        clear hv hcc
        go_wp2_with fail
        go_quiet (fail)
        have hbq : Below Z.heap.size Z (Z.drewN nq) := ⟨rfl, rfl, rfl, Nat.le_refl _, fun _ _ => rfl⟩
        obtain ⟨V, hV⟩ : ∃ V : World, V = Z.drewN nq := ⟨_, rfl⟩
        rw [← hV] at hbq
        rw [← hV]
        have hrV := ownsRow_chg HRZ.out (Chg.ofBelow (S := fun _ => False) hbq) (fun _ _ => id)
        have hcV := HCZ.out.trans (Chg.ofBelow hbq)
        have v0 : V.cell? ⟨tg, k * 4, none⟩ = some (.string t.word) := (hbq.cell (p := ⟨tg, k * 4, none⟩) htgl).trans c0
        have v1 : V.cell? ⟨tg, k * 4 + 1, none⟩ = some (.int .i64 t.per) := (hbq.cell (p := ⟨tg, k * 4 + 1, none⟩) htgl).trans c1
        have v2 : V.cell? ⟨tg, k * 4 + 2, none⟩ = some (.int .i64 t.dl) := (hbq.cell (p := ⟨tg, k * 4 + 2, none⟩) htgl).trans c2
        have v3 : V.cell? ⟨tg, k * 4 + 3, none⟩ = some (.int .i64 t.off) := (hbq.cell (p := ⟨tg, k * 4 + 3, none⟩) htgl).trans c3
        have f0 := row_free' hrV (k * 4); have f1 := row_free' hrV (k * 4 + 1); have f2 := row_free' hrV (k * 4 + 2); have f3 := row_free' hrV (k * 4 + 3)
        have HRV := hidden hrV; have HCV := hidden hcV
        clear hV hbq hrV hcV w0 w1 w2 w3 c0 c1 c2 c3
        go_wp2_with fail
        go_roundw
        case rel =>
          refine ⟨rfl, k + 1, (((ys.set (k * 4) (.string ⟨#[111, 116, 104, 101, 114]⟩)).set (k * 4 + 1) (.int .i64 0)).set (k * 4 + 2) (.int .i64 0)).set (k * 4 + 3) (.int .i64 0), by omega, by go_num, hidden ⟨ownsRow_set (ownsRow_set (ownsRow_set (ownsRow_set HRV.out (k * 4) _) (k * 4 + 1) _) (k * 4 + 2) _) (k * 4 + 3) _, set4_suf HY2.out⟩, hidden ((((HCV.out.setCell (p := ⟨tg, k * 4, none⟩) rfl _).setCell (p := ⟨tg, k * 4 + 1, none⟩) rfl _).setCell (p := ⟨tg, k * 4 + 2, none⟩) rfl _).setCell (p := ⟨tg, k * 4 + 3, none⟩) rfl _)⟩
        case measure => simp [intOf]; omega
    · obtain rfl : k = n + 8 := by omega
      have hli : ¬ ((n : Int) + 8 < (n : Int) + 8) := by omega
      go_wp2_with fail
      go_ret
      exact ⟨rfl, HC.out⟩

end Go.Proofs.YtcphhbofjkenaaaGreatDoor

/- The law: Admit. -/
namespace Go.Proofs.YtcphhbofjkenaaaGreatDoor
open Go Go.RowKit
set_option linter.unusedVariables false
set_option linter.unusedSimpArgs false

/-- Tasks that were lent: where they lie. -/
def LentAt (base : Nat) (w : World) (a : Option Addr) (n : Nat) (ta : Option Addr) (cap : Nat) (ts : List TK) : Prop :=
  (a = none ∧ ta = none ∧ cap = 0) ∨ ((∃ p, a = some p) ∧ ∃ tg, ta = some ⟨tg, 0, none⟩ ∧ cap = n + 8 ∧ base ≤ tg ∧ w.ownsRow base 67 4 (.slice (some ⟨tg, 0, none⟩) (n + 8) (n + 8)) (n + 8) (lentT ts))
theorem LentAt.below {base : Nat} {w w' : World} {a : Option Addr} {n : Nat} {ta : Option Addr} {cap : Nat} {ts : List TK} (h : LentAt base w a n ta cap ts) (hb : Below w.heap.size w w') : LentAt base w' a n ta cap ts := by
  rcases h with h | ⟨h1, tg, h2, h3, h4, h5⟩
  · exact Or.inl h
  · exact Or.inr ⟨h1, tg, h2, h3, h4, ownsRow_chg h5 (Chg.ofBelow (S := fun _ => False) hb) (fun _ _ => id)⟩

theorem dat_len {B : Nat} {w : World} {a : Option Addr} {n c : Nat} {ts : List TK} (h : DatAt B w a n c 4 (ts.flatMap TK.cells)) : n = ts.length := by
  have := h.1; rw [taskC_len] at this; omega

theorem law_lent {B : Nat} {w : World} {a : Option Addr} {n c : Nat} {ts : List TK} (h : DatAt B w a n c 4 (ts.flatMap TK.cells)) (hn : n ≤ 1100000) (hB : B ≤ w.heap.size) :
    Calls Tryz.prog 99 #[.slice a n c] w fun e w' => ∃ ta cap, e = .returned (.slice ta n cap) ∧ LentAt w.heap.size w' a n ta cap ts ∧ Below w.heap.size w w' := by
  have hl := dat_len h
  obtain ⟨_, hc, h | ⟨p, rfl, h⟩⟩ := h
  · obtain ⟨rfl, rfl, rfl⟩ := h
    refine (law_lentTasks0 w).mono ?_
    rintro e w' ⟨he, hb⟩
    exact ⟨none, 0, he, Or.inl ⟨rfl, rfl, rfl⟩, hb⟩
  · refine (law_lentTasks w p n c ts hl hn hc (fun j u hu => ⟨Nat.lt_of_lt_of_le (h j u hu).1 hB, (h j u hu).2⟩)).mono ?_
    rintro e w' ⟨tg, he, h1, h2, h3⟩
    exact ⟨_, _, he, Or.inr ⟨⟨p, rfl⟩, tg, rfl, rfl, h1, h2⟩, h3⟩
theorem law_whole {B base : Nat} {w : World} {a : Option Addr} {n c : Nat} {ta : Option Addr} {cap : Nat} {ts : List TK} (h : DatAt B w a n c 4 (ts.flatMap TK.cells)) (hn : n ≤ 1100000) (hB : B ≤ base) (hbs : base ≤ w.heap.size) (hl : LentAt base w a n ta cap ts) :
    Calls Tryz.prog 101 #[.slice ta n cap, .slice a n c] w fun e w' => e = .returned (.bool true) ∧ Chg (fun b => ta = some ⟨b, 0, none⟩) w w' := by
  have hlen := dat_len h
  obtain ⟨_, hc, h | ⟨p, rfl, h⟩⟩ := h
  · obtain ⟨rfl, rfl, rfl⟩ := h
    refine (law_wholeTasks0 w _).mono ?_
    rintro e w' ⟨he, hb⟩
    exact ⟨he, Chg.ofBelow hb⟩
  · rcases hl with ⟨e, _⟩ | ⟨_, tg, rfl, rfl, h4, h5⟩
    · cases e
    · refine (law_wholeTasks w base tg B p n c ts hlen hn hc (Nat.le_trans hB h4) (Nat.le_trans hB hbs) h h5).mono ?_
      rintro e w' ⟨he, hcg⟩
      exact ⟨he, hcg.mono (fun b _ e => by rw [e])⟩
/-- What the program's Admit wants to know of tasks that were lent. -/
theorem LentAt.tasks {base : Nat} {w : World} {a : Option Addr} {n c : Nat} {ta : Option Addr} {cap : Nat} {ts : List TK} {B : Nat} {w0 : World} (h : DatAt B w0 a n c 4 (ts.flatMap TK.cells)) (hl : LentAt base w a n ta cap ts) :
    n ≤ cap ∧ ((n = 0) ∨ ∃ tg, ta = some ⟨tg, 0, none⟩ ∧ tg < w.heap.size ∧ ∀ (j : Nat) (u : Value), (ts.flatMap TK.cells)[j]? = some u → w.cell? ⟨tg, j, none⟩ = some u) := by
  have hlen := dat_len h
  obtain ⟨_, hc, h0⟩ := h
  rcases hl with ⟨e1, e2, e3⟩ | ⟨⟨p, hp⟩, tg, rfl, rfl, h4, h5⟩
  · rcases h0 with ⟨_, h0, _⟩ | ⟨p, h0, _⟩
    · exact ⟨by omega, Or.inl h0⟩
    · rw [e1] at h0; cases h0
  · refine ⟨by omega, Or.inr ⟨tg, rfl, own_lt h5 (k := tg) rfl, fun j u hu => ?_⟩⟩
    have hj : j < ts.length * 4 := by
      have := (List.getElem?_eq_some_iff.1 hu).1
      rw [taskC_len] at this; exact this
    obtain ⟨g', cap', hv, _, _, _, _, hcc⟩ := row_cells h5 (by omega)
    obtain ⟨rfl, rfl⟩ : tg = g' ∧ n + 8 = cap' := by simpa using hv
    exact hcc _ _ (by rw [lentT_pre ts j hj]; exact hu)
theorem DatAt.tasks {B : Nat} {w : World} {a : Option Addr} {n c : Nat} {ts : List TK} (h : DatAt B w a n c 4 (ts.flatMap TK.cells)) (hB : B ≤ w.heap.size) : (n = 0) ∨ ∃ pb po, a = some ⟨pb, po, none⟩ ∧ TasksAt w pb po ts := by
  have hlen := dat_len h
  obtain ⟨_, hc, ⟨_, h0, _⟩ | ⟨p, rfl, h⟩⟩ := h
  · exact Or.inl h0
  · rcases Nat.eq_zero_or_pos n with h0 | h0
    · exact Or.inl h0
    · right
      obtain ⟨u, hu⟩ : ∃ u, (ts.flatMap TK.cells)[0]? = some u := ⟨_, List.getElem?_eq_getElem (by rw [taskC_len]; omega)⟩
      obtain ⟨hpB, h1⟩ := h 0 u hu
      have hsp : p.spot = none := by
        have h0 : p.add 0 = p := by simp [Addr.add]
        rw [h0] at h1
        unfold World.cell? at h1
        split at h1
        · split at h1
          · cases h1
          · rename_i h; simpa using h
        · cases h1
      obtain ⟨pb, po, ps⟩ := p
      simp only at hsp hpB
      subst hsp
      exact ⟨pb, po, rfl, Nat.lt_of_lt_of_le hpB hB, fun j u hu => by have := (h j u hu).2; rwa [Addr.add_lit] at this⟩

/-- What both sides' Admit give, spelt out. -/
theorem AdmPost.open {w w' : World} {ws : List RW} {l : List TK} {e : Ending} (h : AdmPost w ws l e w') :
    ∃ pa pn pc, e = .returned (.tuple #[.slice pa pn pc, .int .i64 (admitT ws l).1, .int .i64 (admitT ws l).2]) ∧ (((admitT ws l).1 ≠ 0 ∧ pa = none ∧ pn = 0 ∧ pc = 0) ∨ ((admitT ws l).1 = 0 ∧ pn = l.length ∧ 0 < pn ∧ pn ≤ 8 ∧ w'.ownsRow w.heap.size 133 3 (.slice pa pn pc) pn (plansTo (loadsT ws l) l pn))) ∧ Below w.heap.size w w' := by
  obtain ⟨⟨pa, pn, pc, he, h1, h2⟩, hb⟩ := h
  refine ⟨pa, pn, pc, he, ?_, hb⟩
  by_cases e0 : (admitT ws l).1 = 0
  · exact Or.inr ⟨e0, h2 e0⟩
  · exact Or.inl ⟨e0, h1 e0⟩

set_option maxRecDepth 100000 in
set_option maxHeartbeats 16000000 in
theorem law_admitted {B : Nat} {w : World} {wb : Nat} {lv : Value} {bk : B4} {G : G4} {ds : List PD} {i : Nat} {d : PD} (h : LawAt B w wb lv bk G ds) (hi : ds[i]? = some d) (hg : G.p.length ≤ 90000000)
    (k A C : Int) (S : ByteArray) (a1 a2 a3 : Option Addr) (n1 c1 n2 c2 n3 c3 : Nat) (ts : List TK) (hd : DatAt B w a3 n3 c3 4 (ts.flatMap TK.cells)) (hn3 : n3 ≤ 1100000) :
    Calls Tryz.prog 68 #[.pointer (some ⟨wb, 0, none⟩), .agg #[.pointer (some ⟨d.bb, 0, none⟩), .pointer (some ⟨d.sb, 0, none⟩)], .agg #[.int .i64 k, .int .i64 A, .int .i64 C, .string S, .slice a1 n1 c1, .slice a2 n2 c2, .slice a3 n3 c3]] w fun e w' => e = .returned (.bool true) ∧ ∃ bk' G', LawAt B w' wb lv bk' G' ds ∧ GLe G G' ∧ Below B w w' := by
  obtain ⟨pb, hpb⟩ : ∃ pb, pb = w.heap.size := ⟨_, rfl⟩
  obtain ⟨ob, hob⟩ : ∃ ob, ob = w.heap.size + 1 := ⟨_, rfl⟩
  obtain ⟨X, hX⟩ : ∃ X : World, X = (w.alloc (.cells #[.pointer (some ⟨d.bb, 0, none⟩), .pointer (some ⟨d.sb, 0, none⟩)] 143 (0, 0))).alloc (.cells #[.int .i64 k, .int .i64 A, .int .i64 C, .string S, .slice a1 n1 c1, .slice a2 n2 c2, .slice a3 n3 c3] 86 (0, 0)) := ⟨_, rfl⟩
  have hb0 : Below w.heap.size w X := by rw [hX]; exact ((Below.refl _ _).alloc (Nat.le_refl _) _).alloc (by simp) _
  have hkp : Blk X pb #[.pointer (some ⟨d.bb, 0, none⟩), .pointer (some ⟨d.sb, 0, none⟩)] 143 := by rw [hX, hpb]; exact (blk_new w _ _).alloc _
  have hko : Blk X ob #[.int .i64 k, .int .i64 A, .int .i64 C, .string S, .slice a1 n1 c1, .slice a2 n2 c2, .slice a3 n3 c3] 86 := by
    rw [hX, hob]
    have := blk_new (w.alloc (.cells #[.pointer (some ⟨d.bb, 0, none⟩), .pointer (some ⟨d.sb, 0, none⟩)] 143 (0, 0))) #[.int .i64 k, .int .i64 A, .int .i64 C, .string S, .slice a1 n1 c1, .slice a2 n2 c2, .slice a3 n3 c3] 86
    simpa using this
  have hdX := hd.below (hb0.mono h.le)
  have o6 : X.cell? ⟨ob, 6, none⟩ = some (.slice a3 n3 c3) := hko.cell 6 _ rfl
  have HLN := hidden (law_lent hdX hn3 (Nat.le_trans h.le hb0.size))
  have HL := hidden h; have HX := hidden hX; have HPB := hidden hpb; have HOB := hidden hob; have HB0 := hidden hb0; have HKP := hidden hkp; have HKO := hidden hko; have HI := hidden hi; have HD := hidden hd
  clear h hX hpb hob hb0 hkp hko hdX hi hd
  go_enter Tryz.func68, Tryz.ntmps68
  go_upto_region 1 with fail
  rw [← HX.out, ← HOB.out, ← HPB.out]
  go_wp2_with fail
  refine HLN.out.mono ?_
  rintro e w1 ⟨ta, tc, rfl, hlt, hb1⟩
  have hB1 := HB0.out.trans (hb1.mono HB0.out.size)
  have hkp1 := HKP.out.sub hb1 HKP.out.lt
  have hko1 := HKO.out.sub hb1 HKO.out.lt
  have hL1 := HL.out.below hB1
  have hd1 := hL1.at_ i d HI.out
  have p0 : w1.cell? ⟨pb, 0, none⟩ = some (.pointer (some ⟨d.bb, 0, none⟩)) := hkp1.cell 0 _ rfl
  obtain ⟨htc, htt⟩ := hlt.tasks HD.out
  have HAD := hidden (rates_admit ts ta n3 tc hd1.ps (by have := hd1.li.l; omega) hd1.al (dat_len HD.out) htc hn3 htt)
  have HLT := hidden hlt; have HB1 := hidden hB1; have HKP1 := hidden hkp1; have HKO1 := hidden hko1; have HL1 := hidden hL1
  have hs1 := hb1.size
  clear hlt hb1 hB1 hkp1 hko1 hL1 hd1 htt HLN HKP HKO o6
  go_wp2_with fail
  refine HAD.out.mono ?_
  intro e w2 hpost
  obtain ⟨pa, pn, pc, rfl, hcase, hb2⟩ := hpost.open
  have hB2 := HB1.out.trans (hb2.mono HB1.out.size)
  have hkp2 := HKP1.out.sub hb2 HKP1.out.lt
  have hko2 := HKO1.out.sub hb2 HKO1.out.lt
  have hL2 := HL.out.below hB2
  have hd2 := hL2.at_ i d HI.out
  have hdt2 := HD.out.below (hB2.mono HL.out.le)
  have p1 : w2.cell? ⟨pb, 1, none⟩ = some (.pointer (some ⟨d.sb, 0, none⟩)) := hkp2.cell 1 _ rfl
  have o6 : w2.cell? ⟨ob, 6, none⟩ = some (.slice a3 n3 c3) := hko2.cell 6 _ rfl
  have HRA := hidden (ref_admit ts a3 n3 c3 w2 hd2.rs (few_ws hd2.li hd2.al) hd2.al (dat_len HD.out) HD.out.2.1 hn3 (hdt2.tasks (Nat.le_trans HL.out.le hB2.size)))
  have HC1 := hidden hcase; have HB2 := hidden hB2; have HKO2 := hidden hko2; have HLT2 := hidden (HLT.out.below hb2)
  obtain ⟨E, hE⟩ : ∃ E, E = (admitT d.ws ts).1 := ⟨_, rfl⟩
  obtain ⟨K, hK⟩ : ∃ K, K = (admitT d.ws ts).2 := ⟨_, rfl⟩
  rw [← hE, ← hK]
  rw [← hE] at HC1
  have HE := hidden hE; have HK := hidden hK
  have hs2 := hb2.size
  clear hpost hcase hb2 hB2 hkp2 hko2 hL2 hd2 hdt2 HAD HL1 HKP1 HKO1 HLT p0 hE hK
  go_wp2_with fail
  refine HRA.out.mono ?_
  intro e w3 hpost
  obtain ⟨qa, qn, qc, rfl, hcase, hb3⟩ := hpost.open
  have hB3 := HB2.out.trans (hb3.mono HB2.out.size)
  have hko3 := HKO2.out.sub hb3 HKO2.out.lt
  have hdt3 := HD.out.below (hB3.mono HL.out.le)
  have o63 : w3.cell? ⟨ob, 6, none⟩ = some (.slice a3 n3 c3) := hko3.cell 6 _ rfl
  have hlt3 := HLT2.out.below hb3
  have hs3 := hb3.size
  have hXw := HB0.out.size
  have HWH := hidden (law_whole hdt3 hn3 (Nat.le_trans HL.out.le hXw) (Nat.le_trans hs1 (Nat.le_trans hs2 hs3)) hlt3)
  have hrow1 : (E = 0 → w3.ownsRow w1.heap.size 133 3 (.slice pa pn pc) pn (plansTo (loadsT d.ws ts) ts pn)) := fun e0 => by
    rcases HC1.out with ⟨h0, _⟩ | ⟨_, _, _, _, hr⟩
    · exact absurd e0 h0
    · exact ownsRow_chg hr (Chg.ofBelow (S := fun _ => False) hb3) (fun _ _ => id)
  rw [← HE.out] at hcase
  have HC2 := hidden hcase; have HR1 := hidden hrow1; have HB3 := hidden hB3
  have HTB := hidden (show ∀ b, ta = some ⟨b, 0, none⟩ → w.heap.size ≤ b ∧ ∃ n xs, w3.ownsRow X.heap.size 67 4 (.slice (some ⟨b, 0, none⟩) n n) n xs from fun b hb => by
    rcases hlt3 with ⟨_, e, _⟩ | ⟨_, tg, e, _, h4, h5⟩
    · rw [hb] at e; cases e
    · rw [e] at hb
      obtain rfl : tg = b := by simpa using hb
      exact ⟨by omega, _, _, h5⟩)
  rw [← HE.out, ← HK.out]
  clear hpost hcase hb3 hB3 hko3 hdt3 hlt3 hrow1 HRA HB2 HKO2 HLT2 p1 o6
  go_wp2_with fail
  refine HWH.out.mono ?_
  rintro e w4 ⟨rfl, hc4⟩
  have hB4 : Below w.heap.size w w4 := HB3.out.trans (hc4.toBelow HB3.out.size (fun b hb e => by have := (HTB.out b e).1; omega))
  have keep : ∀ {base n : Nat} {v : Value} {xs : List Value}, w3.ownsRow base 133 3 v n xs → w4.ownsRow base 133 3 v n xs := fun hr => ownsRow_chg hr hc4 (fun b hb e => by
    obtain ⟨_, m, ys, ht⟩ := HTB.out b e
    exact own_own hr ht (by decide) hb rfl)
  have hL4 := HL.out.below hB4
  have HL4 := hidden hL4; have HB4 := hidden hB4
  have hwb4 := hL4.blk.lt
  have HE1 := hidden (show E = (admitT d.ws ts).1 from HE.out)
  have fin : ∀ (w5 : World), Below w4.heap.size w4 w5 → Hid (∃ xs, w5.ownsRow w1.heap.size 133 3 (.slice pa pn pc) pn xs) → pn ≤ 8 → Hid (∀ e w6, KeepPost 2 B w5 wb lv bk G.p (.slice pa pn pc) e w6 → ∃ bk' G', LawAt B w6 wb lv bk' G' ds ∧ GLe G G' ∧ Below B w w6) ∧ Hid (Calls Tryz.prog 102 #[.pointer (some ⟨wb, 1, none⟩), .slice pa pn pc] w5 (KeepPost 2 B w5 wb lv bk G.p (.slice pa pn pc))) := fun w5 hb5 hx hn => by
    obtain ⟨xs, hr⟩ := hx.out
    have hL5 := hL4.below hb5
    have hBw := hB4.trans (hb5.mono hB4.size)
    refine ⟨hidden (fun e w6 hp => ?_), hidden (law_keeps2 B w5 wb lv bk G.p pa pn pc xs hL5.blk (hL5.bok.row 2 (by omega)) (by omega) (by omega) hL5.le (ownsRow_base hr (fun b hb => Nat.le_trans HL.out.le (Nat.le_trans (by omega) (own_base hr hb)))))⟩
    obtain ⟨bk', G', hL', hG', hl', _, hc'⟩ := hL5.keeps (j := 2) (by omega) (fun b hb => by
      have h1 := own_base hr hb
      have hw0 := HL.out.blk.lt
      have hle := HL.out.le
      refine ⟨by omega, own_lt hr hb, by omega, fun e => ?_, fun e => ?_, fun i d hd e => ?_⟩
      · have := own_lt HL.out.prs e; omega
      · have := HL.out.bok.lt e; omega
      · have := (HL.out.at_ i d hd).lt e; omega) hp
    refine ⟨bk', G', hL', GLe.of (by omega) hG' hl', (hBw.mono HL.out.le).trans (hc'.toBelow hL5.le (fun b hb e => ?_))⟩
    have hwB := HL.out.bas.2
    rcases e with e | e | e
    · omega
    · have := own_base hr e; have := HL.out.le; omega
    · have := hL5.bok.base e; omega
  have HFN := hidden fin
  by_cases hE0 : E = 0
  · obtain ⟨_, hpn, hp0, hp8, _⟩ := HC1.out.resolve_left (fun h => h.1 hE0)
    obtain ⟨_, hqn, _, _, hq⟩ := HC2.out.resolve_left (fun h => h.1 hE0)
    obtain rfl : pn = qn := by omega
    have hr1 := keep (HR1.out hE0)
    have hr2 := keep hq
    obtain ⟨g1, cap1, hv1, _, hg1, hnc1, _, hc1⟩ := row_cells hr1 hp0
    obtain ⟨g2, cap2, hv2, _, hg2, hnc2, _, hc2⟩ := row_cells hr2 hp0
    obtain ⟨rfl, rfl⟩ : pa = some ⟨g1, 0, none⟩ ∧ pc = cap1 := by simpa using hv1
    obtain ⟨rfl, rfl⟩ : qa = some ⟨g2, 0, none⟩ ∧ qc = cap2 := by simpa using hv2
    have hpl : ∀ (j m : Nat), j < pn → m < 3 → ∃ z : Int, w4.cell? ⟨g1, j * 3 + m, none⟩ = some (.int .i64 z) ∧ w4.cell? ⟨g2, j * 3 + m, none⟩ = some (.int .i64 z) := fun j m hj hm => by
      have hpg := plans_get (loadsT d.ws ts) ts pn j m hj hm
      have : ∃ z : Int, (planAt (loadsT d.ws ts) ts j)[m]? = some (.int .i64 z) := by
        match m, hm with
        | 0, _ => exact ⟨_, rfl⟩
        | 1, _ => exact ⟨_, rfl⟩
        | 2, _ => exact ⟨_, rfl⟩
      obtain ⟨z, hz⟩ := this
      rw [hz] at hpg
      exact ⟨z, hc1 _ _ hpg, hc2 _ _ hpg⟩
    have hnl := fun w => Lib.run_eql_slice_nil (P := Tryz.prog) w 57 133 (some ⟨g1, 0, none⟩) pn pc 0 0 Tryz.underlying57
    simp only [Option.isNone_some] at hnl
    have hee : (E == E) = true := by simp
    have hkk : ((K : Int) == (K : Int)) = true := by simp
    have hE1 : (E == 0) = true := by simp [hE0]
    have HR := hidden hr1; have HPL := hidden hpl
    have HE0 := hidden hE0
    clear hr1 hr2 hv1 hv2 hc1 hc2 hq hpl keep fin hL4 hB4 hc4 HWH HC1 HC2 HR1 HTB o63 hE0 hpn hqn
    go_wp2_with fail
    go_loopw [15, 16] (fun o i wr => o = .bool true ∧ ∃ j : Nat, j ≤ pn ∧ i = .int .i64 j ∧ Hid (Below w4.heap.size w4 wr)) (fun _ i _ => pn - (intOf i).toNat)
    case atStart => exact ⟨rfl, 0, Nat.zero_le _, rfl, Below.refl _ _⟩
    case round =>
      clear hnl
      obtain ⟨rfl, j, hj, rfl, HBR⟩ := hrel
      by_cases hjn : j < pn
      · have hji : (j : Int) < (pn : Int) := by omega
        have hj0 : (0 : Int) ≤ (j : Int) := by omega
        obtain ⟨z0, x0, y0⟩ := HPL.out j 0 hjn (by omega)
        obtain ⟨z1, x1, y1⟩ := HPL.out j 1 hjn (by omega)
        obtain ⟨z2, x2, y2⟩ := HPL.out j 2 hjn (by omega)
        rw [Nat.add_zero] at x0 y0
        have e0 := (HBR.out.cell (p := ⟨g1, j * 3, none⟩) hg1).trans x0
        have e1 := (HBR.out.cell (p := ⟨g1, j * 3 + 1, none⟩) hg1).trans x1
        have e2 := (HBR.out.cell (p := ⟨g1, j * 3 + 2, none⟩) hg1).trans x2
        have f0 := (HBR.out.cell (p := ⟨g2, j * 3, none⟩) hg2).trans y0
        have f1 := (HBR.out.cell (p := ⟨g2, j * 3 + 1, none⟩) hg2).trans y1
        have f2 := (HBR.out.cell (p := ⟨g2, j * 3 + 2, none⟩) hg2).trans y2
        clear x0 x1 x2 y0 y1 y2
        go_wp2_with fail
        go_quiet (fail)
        go_wp2_with fail
        go_roundw
        case rel => exact ⟨rfl, j + 1, by omega, by go_num, hidden (HBR.out.trans ⟨rfl, rfl, rfl, Nat.le_refl _, fun _ _ => rfl⟩)⟩
        case measure => simp [intOf]; omega
      · obtain rfl : j = pn := by omega
        have hji : ¬ (j : Int) < (j : Int) := by omega
        obtain ⟨HF1, HF2⟩ := HFN.out wr HBR.out (hidden ⟨_, ownsRow_chg HR.out (Chg.ofBelow (S := fun _ => False) HBR.out) (fun _ _ => id)⟩) hp8
        have hwbr : wb < wr.heap.size := Nat.lt_of_lt_of_le hwb4 HBR.out.size
        clear HFN
        go_wp2_with fail
        refine HF2.out.mono ?_
        intro e w6 hp6
        obtain rfl := hp6.1
        have H6 := hidden hp6
        clear hp6 HF2
        go_wp2_with fail
        go_ret
        exact ⟨rfl, HF1.out _ _ H6.out⟩
  · obtain ⟨_, rfl, rfl, rfl⟩ := HC1.out.resolve_right (fun h => hE0 h.1)
    obtain ⟨_, rfl, rfl, rfl⟩ := HC2.out.resolve_right (fun h => hE0 h.1)
    have hnl := fun w => Lib.run_eql_slice_nil (P := Tryz.prog) w 57 133 none 0 0 0 0 Tryz.underlying57
    simp only [Option.isNone_none] at hnl
    obtain ⟨HF1, HF2⟩ := HFN.out w4 (Below.refl _ _) (hidden ⟨[], rfl, Or.inl ⟨rfl, rfl⟩⟩) (by omega)
    have hee : (E == E) = true := by simp
    have hkk : ((K : Int) == (K : Int)) = true := by simp
    clear keep fin hL4 hB4 hc4 HWH HC1 HC2 HR1 HTB o63 HFN
    go_wp2_with fail
    refine wp_loop_rounds 1 ?_
    rw [rounds_succ]
    go_wp2_with fail
    refine HF2.out.mono ?_
    intro e w6 hp6
    obtain rfl := hp6.1
    have H6 := hidden hp6
    clear hp6 HF2
    go_wp2_with fail
    go_ret
    exact ⟨rfl, HF1.out _ _ H6.out⟩

end Go.Proofs.YtcphhbofjkenaaaGreatDoor

/- The law 'Admits', for every script that is not too great. -/
namespace Go.Proofs.YtcphhbofjkenaaaGreatDoor
open Go Go.RowKit
set_option linter.unusedVariables false
set_option linter.unusedSimpArgs false
attribute [local go_sem] quietF

set_option maxRecDepth 100000 in
set_option maxHeartbeats 8000000 in
theorem law_step_admit {B : Nat} {w : World} {wb : Nat} {lv : Value} {bk : B4} {G : G4} {ds : List PD} (h : LawAt B w wb lv bk G ds) (hp : 0 < ds.length) (hl : ds.length ≤ 9000000) (hg : G.p.length ≤ 90000000)
    (A C : Int) (S : ByteArray) (a1 a2 a3 : Option Addr) (n1 c1 n2 c2 n3 c3 : Nat) (hA0 : -9223372036854775808 ≤ A) (hA1 : A ≤ 9223372036854775807) (hS : S.size ≤ 1100000) (ts : List TK) (hdt : DatAt B w a3 n3 c3 4 (ts.flatMap TK.cells)) (hn3 : n3 ≤ 1100000) :
    Calls Tryz.prog 35 #[.pointer (some ⟨wb, 0, none⟩), .agg #[.int .i64 6, .int .i64 A, .int .i64 C, .string S, .slice a1 n1 c1, .slice a2 n2 c2, .slice a3 n3 c3]] w (LStep B w wb ds G 0) := by
  obtain ⟨lad, lcap, hlv, hlc, _⟩ := row_shape h.prs
  subst hlv
  obtain ⟨i, hpi, hil⟩ := pick_nat A ds.length hp
  obtain ⟨d, hd⟩ : ∃ d, ds[i]? = some d := ⟨_, List.getElem?_eq_getElem hil⟩
  obtain ⟨X, hX⟩ : ∃ X : World, X = w.alloc (.cells #[.int .i64 6, .int .i64 A, .int .i64 C, .string S, .slice a1 n1 c1, .slice a2 n2 c2, .slice a3 n3 c3] 86 (0, 0)) := ⟨_, rfl⟩
  obtain ⟨ob, hob⟩ : ∃ ob, ob = w.heap.size := ⟨_, rfl⟩
  have hbX : Below w.heap.size w X := by rw [hX]; exact (Below.refl _ _).alloc (Nat.le_refl _) _
  have hkX : Blk X ob #[.int .i64 6, .int .i64 A, .int .i64 C, .string S, .slice a1 n1 c1, .slice a2 n2 c2, .slice a3 n3 c3] 86 := by rw [hX, hob]; exact blk_new w _ _
  have hLX := h.below hbX
  have o0 : X.cell? ⟨ob, 0, none⟩ = some (.int .i64 6) := hkX.cell 0 _ rfl
  have o1 : X.cell? ⟨ob, 1, none⟩ = some (.int .i64 A) := hkX.cell 1 _ rfl
  have o3 : X.cell? ⟨ob, 3, none⟩ = some (.string S) := hkX.cell 3 _ rfl
  have w0 : X.cell? ⟨wb, 0, none⟩ = some (.slice lad ds.length lcap) := hLX.blk.cell 0 _ rfl
  obtain ⟨lg, lcap', hv, _, hlgx, _, _, hcell⟩ := row_cells hLX.prs hp
  obtain ⟨rfl, rfl⟩ : lad = some ⟨lg, 0, none⟩ ∧ lcap = lcap' := by simpa using hv
  have g0 : X.cell? ⟨lg, i * 2, none⟩ = some (.pointer (some ⟨d.bb, 0, none⟩)) := by
    refine hcell _ _ ?_
    have := flat_get PD.cells 2 (fun _ => rfl) ds i 0 hil (by omega)
    rw [Nat.add_zero] at this
    rw [this, (List.getElem?_eq_some_iff.1 hd).2]; rfl
  have g1 : X.cell? ⟨lg, i * 2 + 1, none⟩ = some (.pointer (some ⟨d.sb, 0, none⟩)) := by
    refine hcell _ _ ?_
    rw [flat_get PD.cells 2 (fun _ => rfl) ds i 1 hil (by omega), (List.getElem?_eq_some_iff.1 hd).2]; rfl
  have HX := hidden hX; have HOB := hidden hob; have HL := hidden h; have HLX := hidden hLX; have HKX := hidden hkX; have HBX := hidden hbX; have HD := hidden hd; have HDT := hidden hdt
  have hli : (i : Int) < (ds.length : Int) := by omega
  have hl0 : (0 : Int) ≤ (i : Int) := by omega
  have hln : (ds.length : Int) ≤ 9000000 := by omega
  have HPK := hidden (fun w' => (law_pick A ds.length w' (by omega) (by omega) hA0 hA1).mono (fun e w2 (he : e = .returned (.int .i64 (pickS A ds.length)) ∧ w2 = w') => (show e = .returned (.int .i64 i) ∧ Below w'.heap.size w' w2 by rw [he.1, he.2, hpi]; exact ⟨rfl, Below.refl _ _⟩)))
  clear h hdt hX hob hbX hkX hLX hd hv hcell hpi
  go_enter Tryz.func35, Tryz.ntmps35
  go_upto_region 1 with fail
  rw [← HX.out, ← HOB.out]
  go_upto_region 3 with fail
  have hne := UndA.ne X.heap.size X #[.pointer none, .pointer none] 143 (Nat.le_refl _)
  have k0 : ∀ (S' : Option Nat) (u : UndA X.heap.size X #[.pointer none, .pointer none] 143 S'), u.val.cell? ⟨wb, 0, none⟩ = some (.slice (some ⟨lg, 0, none⟩) ds.length lcap) := fun S' u => u.cell w0 (World.block_lt_of_cell? X _ w0)
  have k1 : ∀ (S' : Option Nat) (u : UndA X.heap.size X #[.pointer none, .pointer none] 143 S'), u.val.cell? ⟨ob, 1, none⟩ = some (.int .i64 A) := fun S' u => u.cell o1 (World.block_lt_of_cell? X _ o1)
  have k2 : ∀ (S' : Option Nat) (u : UndA X.heap.size X #[.pointer none, .pointer none] 143 S'), u.val.cell? ⟨lg, i * 2, none⟩ = some (.pointer (some ⟨d.bb, 0, none⟩)) := fun S' u => u.cell g0 (World.block_lt_of_cell? X _ g0)
  have k3 : ∀ (S' : Option Nat) (u : UndA X.heap.size X #[.pointer none, .pointer none] 143 S'), u.val.cell? ⟨lg, i * 2 + 1, none⟩ = some (.pointer (some ⟨d.sb, 0, none⟩)) := fun S' u => u.cell g1 (World.block_lt_of_cell? X _ g1)
  refine wp_region_new #[.pointer none, .pointer none] 143 14 (by kernel_rfl) (by kernel_rfl) rfl (fun _ => rfl) (fun a w => by simp [go_sem]) ?_
  simp only [List.take_succ_cons, List.take_zero, List.drop_succ_cons, List.drop_zero]
  repeat (refine wpQuietF_step (fun K hK => ?_); go_simp; first | (refine hK _ ?_; clear hK K) | (apply Exists.intro; refine ⟨fun S u => ?_, hK _ ?_⟩; (go_at_call 63; exact UndA.calls (Nat.le_refl _) u (HPK.out _)); clear hK K))
  refine wpQuietF_nil ?_
  intro pb w6 hpb hbel hblk
  have z0 : w6.cell? ⟨pb, 0, none⟩ = some (.pointer none) := hblk.cell 0 _ rfl
  have z1 : w6.cell? ⟨pb, 1, none⟩ = some (.pointer none) := hblk.cell 1 _ rfl
  have y0 := hblk.frozen 0; have y1 := hblk.frozen 1
  have hltpb := hblk.lt
  obtain ⟨V, hV⟩ : ∃ V : World, V = (w6.setCell ⟨pb, 0, none⟩ (.pointer (some ⟨d.bb, 0, none⟩))).setCell ⟨pb, 1, none⟩ (.pointer (some ⟨d.sb, 0, none⟩)) := ⟨_, rfl⟩
  have hkV : Blk V pb #[.pointer (some ⟨d.bb, 0, none⟩), .pointer (some ⟨d.sb, 0, none⟩)] 143 := by
    rw [hV]; have := (hblk.set (o := 0) (.pointer (some ⟨d.bb, 0, none⟩))).set (o := 1) (.pointer (some ⟨d.sb, 0, none⟩)); simpa using this
  have hbV : Below X.heap.size X V := by rw [hV]; exact (hbel.setCell hpb _).setCell hpb _
  have HKV := hidden hkV; have HBV := hidden hbV; have HV := hidden hV
  clear k0 k1 k2 k3 hne hblk hbel hkV hbV o0 o1 o3 w0 g0 g1 hV
  go_simp
  go_upto_region 4 with fail
  rw [← HV.out]
  clear z0 z1 y0 y1
  have hLV := HLX.out.below HBV.out
  have hoV := HKX.out.sub HBV.out HKX.out.lt
  have o0 : V.cell? ⟨ob, 0, none⟩ = some (.int .i64 6) := hoV.cell 0 _ rfl
  have o1 : V.cell? ⟨ob, 1, none⟩ = some (.int .i64 A) := hoV.cell 1 _ rfl
  have o2 : V.cell? ⟨ob, 2, none⟩ = some (.int .i64 C) := hoV.cell 2 _ rfl
  have o3 : V.cell? ⟨ob, 3, none⟩ = some (.string S) := hoV.cell 3 _ rfl
  have o4 : V.cell? ⟨ob, 4, none⟩ = some (.slice a1 n1 c1) := hoV.cell 4 _ rfl
  have o5 : V.cell? ⟨ob, 5, none⟩ = some (.slice a2 n2 c2) := hoV.cell 5 _ rfl
  have o6 : V.cell? ⟨ob, 6, none⟩ = some (.slice a3 n3 c3) := hoV.cell 6 _ rfl
  have p0 : V.cell? ⟨pb, 0, none⟩ = some (.pointer (some ⟨d.bb, 0, none⟩)) := HKV.out.cell 0 _ rfl
  have p1 : V.cell? ⟨pb, 1, none⟩ = some (.pointer (some ⟨d.sb, 0, none⟩)) := HKV.out.cell 1 _ rfl
  have HWD := hidden (law_admitted hLV HD.out hg 6 A C S a1 a2 a3 n1 c1 n2 c2 n3 c3 ts (HDT.out.below ((HBX.out.mono HL.out.le).trans (HBV.out.mono HLX.out.le))) hn3)
  clear hLV hoV
  go_wp2_with fail
  refine HWD.out.mono ?_
  rintro e w8 ⟨rfl, bk', G', hL8, hn8, hb8⟩
  have H8 := hidden (And.intro hL8 (And.intro hn8 hb8))
  clear hL8 hn8 hb8 HWD o0 o1 o2 o3 o4 o5 o6 p0 p1
  go_wp2_with fail
  go_ret
  obtain ⟨hL8, hn8, hb8⟩ := H8.out
  exact ⟨rfl, _, bk', G', ds, hL8, by simp, by omega, hn8, ((HBX.out.mono HL.out.le).trans (HBV.out.mono HLX.out.le)).trans hb8⟩


theorem admits_plays (all : List OpD) (hok : ∀ o ∈ all, o.Ok) : Plays [1, 2, 6] all StL := by
  refine ⟨?_, fun B wb w k m h hk => h.looks hk, fun B wb w w' k m h hb => h.below hb, StL.init, fun B wb w k m h => h.size, rfl⟩
  rintro B wb o ho hin w k m ⟨lv, bk, G, ds, hL, hm, hmk, hg⟩ hat hpos hk
  obtain ⟨h1, h2, h3⟩ := hok o ho
  have hg2 : G.p.length ≤ 12 * k := hg 2 (by omega)
  have hk4 : o.k = 1 ∨ o.k = 2 ∨ o.k = 6 := by
    simp only [List.any_cons, List.any_nil, Bool.or_false, Bool.or_eq_true, beq_iff_eq] at hin
    omega
  rcases hk4 with e | e | e
  · have := law_step_new hL (by omega) o.A o.C o.S o.a1 o.a2 o.a3 o.n1 o.c1 o.n2 o.c2 o.n3 o.c3
    rw [e]
    refine this.mono (fun e' w' h => ?_)
    have := StL.next (o := o) hm hmk hg (fun _ => rfl) h
    rw [e] at this; exact this
  · have := law_step_load hL (by have := hpos (by omega); omega) (by omega) o.A o.C o.S o.a1 o.a2 o.a3 o.n1 o.c1 o.n2 o.c2 o.n3 o.c3 h1 h2 h3
    rw [e]
    refine this.mono (fun e' w' h => ?_)
    have := StL.next (o := o) hm hmk hg (fun h => absurd h (by omega)) h
    rw [e] at this; exact this
  · obtain ⟨ls, ms, ts, _, _, d6, _, _, b6⟩ := hat
    have := law_step_admit hL (by have := hpos (by omega); omega) (by omega) (by omega) o.A o.C o.S o.a1 o.a2 o.a3 o.n1 o.c1 o.n2 o.c2 o.n3 o.c3 h1 h2 h3 ts d6 b6
    rw [e]
    refine this.mono (fun e' w' h => ?_)
    have := StL.next (o := o) hm hmk hg (fun h => absurd h (by omega)) h
    rw [e] at this; exact this

theorem play3 (w : World) (t : TypeId) : ∀ j (h : j < [1, 2, 6].length), (w.alloc (.cells #[.int .i64 1, .int .i64 2, .int .i64 6] t)).cell? ⟨w.heap.size, j, none⟩ = some (.int .i64 ([1, 2, 6] : List Int)[j]) := by
  intro j h
  have h4 : j < 3 := h
  match j, h4 with
  | 0, _ => simp
  | 1, _ => simp
  | 2, _ => simp

set_option maxRecDepth 100000 in
set_option maxHeartbeats 4000000 in
theorem law_admits (w : World) (sv : Value) (ops : List OpD) (hs : ScriptAt w sv ops) (hat : ∀ o ∈ ops, o.At w.heap.size w) (hn : ops.length ≤ 1100000) (ht : Tab w) (hok : ∀ o ∈ ops, o.Ok) :
    Calls Tryz.prog 7 #[sv] w fun e w' => e = .returned (.bool true) ∧ Below w.heap.size w w' := by
  obtain ⟨sa, sn, sc, hsv⟩ : ∃ a n c, sv = .slice a n c := by
    rcases hs with ⟨e, _⟩ | ⟨a, c, e, _⟩
    · exact ⟨_, _, _, e⟩
    · exact ⟨_, _, _, e⟩
  subst hsv
  have hb0 : Below w.heap.size w (w.alloc (.cells #[.int .i64 1, .int .i64 2, .int .i64 6] 3 (0, 0))) := (Below.refl _ _).alloc (Nat.le_refl _) _
  have hs0 : ScriptAt (w.alloc (.cells #[.int .i64 1, .int .i64 2, .int .i64 6] 3 (0, 0))) (.slice sa sn sc) ops := by
    rcases hs with h | ⟨a, c, e, h⟩
    · exact Or.inl h
    · refine Or.inr ⟨a, c, e, fun j u hu => ?_⟩
      have h1 := h j u hu
      rw [hb0.cell (World.block_lt_of_cell? w _ h1)]; exact h1
  have hat0 : ∀ o ∈ ops, o.At (w.alloc (.cells #[.int .i64 1, .int .i64 2, .int .i64 6] 3 (0, 0))).heap.size (w.alloc (.cells #[.int .i64 1, .int .i64 2, .int .i64 6] 3 (0, 0))) := fun o ho => ((hat o ho).below hb0).mono hb0.size
  have HP := hidden (law_plays (pl := [1, 2, 6]) (ops := ops) (St := StL) (w.alloc (.cells #[.int .i64 1, .int .i64 2, .int .i64 6] 3 (0, 0))) (.slice sa sn sc) w.heap.size 3 (fun tb ib => admits_plays _ (fun o ho => (List.mem_append.1 ho).elim (firstD_ok tb ib o) (hok o))) hs0 hat0 hn (ht.below hb0) (by decide) (by decide) (by simp) (play3 w 3))
  have HB := hidden hb0
  clear hs hn ht hok hs0 hb0 hat hat0
  go_enter Tryz.func7, Tryz.ntmps7
  go_wp2_with fail
  refine HP.out.mono ?_
  rintro e w1 ⟨rfl, hb1⟩
  have H1 := hidden hb1
  clear HP hb1
  go_wp2_with fail
  go_ret
  exact ⟨rfl, HB.out.trans (H1.out.mono (by simp))⟩

end Go.Proofs.YtcphhbofjkenaaaGreatDoor
