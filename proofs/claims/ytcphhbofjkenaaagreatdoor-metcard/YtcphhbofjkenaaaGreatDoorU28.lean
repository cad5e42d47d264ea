import Derived.Deep.OwnRows
import Derived.Test.YtcphhbofjkenaaaGreatDoorU22
import Derived.Test.YtcphhbofjkenaaaGreatDoorU26
import Derived.Test.YtcphhbofjkenaaaGreatDoorU27
namespace Go.Proofs.YtcphhbofjkenaaaGreatDoor
open Go Go.RowKit
set_option linter.unusedVariables false
set_option linter.unusedSimpArgs false
theorem rd_new (s : ByteArray) (w : World) :
  Calls Tryz.prog 77 #[.string s] w fun e w' => e = .returned (.pointer (some ⟨w.heap.size, 0, none⟩)) ∧ Blk w' w.heap.size (rdC s 0) 199 ∧ Below w.heap.size w w' := by
 go_enter Tryz.func77, Tryz.ntmps77
 go_wp2_with fail
 exact bodyPost_ret (v := .pointer (some ⟨w.heap.size, 0, none⟩)) (by simp [results, Tryz.results77, go_sem]) rfl ⟨rfl, blk_new w _ _, (Below.refl _ _).alloc (Nat.le_refl _) _⟩
theorem defP_err (es : List PE) (nt : Int) (s : ByteArray) : ∀ (f : Nat) (tk : Int) (dc : List Int) (st : List PB) (kn : Inf) (a : Nat) (E : Int × Int), defP es nt s f tk dc st kn a = .inr E → E.1 ≠ 0
 | 0, tk, dc, st, kn, a, E, h => by rw [defP] at h; cases h; decide
 | f + 1, tk, dc, [], kn, a, E, h => by rw [defP] at h; cases h
 | f + 1, tk, dc, b :: r, kn, a, E, h => by
  rw [defP] at h
  obtain ⟨T, hT⟩ : ∃ T, T = stepP es nt (tk + 1) dc (b :: r) kn (nx s a).1 := ⟨_, rfl⟩
  rw [← hT] at h
  by_cases h0 : T.1 = 0
  ·rw [if_pos h0] at h; exact defP_err es nt s f _ _ _ _ _ E h
  ·rw [if_neg h0] at h; cases h; exact h0
structure LInv (es : List PE) (nv nt : Int) (code : List Int) : Prop where
 l : es.length ≤ 40
 w : ∀ x ∈ es, x.inf.Wt 1
 s : ∀ x ∈ es, x.inf.Sm
 v0 : 0 ≤ nv
 v1 : nv ≤ 16
 t0 : 0 ≤ nt
 t1 : nt ≤ 400
 c : (code.length : Int) ≤ 2 * nt
theorem LInv.var {es : List PE} {nv nt : Int} {code : List Int} {s : ByteArray} {a : Nat} (h : LInv es nv nt code) : LInv (varP es nv s a).2.1 (varP es nv s a).2.2 nt code := by
 unfold varP
 split
 ·rename_i hf
  split
  ·exact h
  ·rename_i hv
   have hl : es.length ≠ 40 := by
    intro e
    unfold refP at hf
    split at hf
    ·exact absurd hf (by decide)
    ·exact absurd hf (by decide)
   have key : ∀ (P : Inf → Prop), P Inf.zero → (∀ x ∈ es, P x.inf) → ∀ x ∈ es ++ [⟨(nx s a).1, true, nv, Inf.zero⟩], P x.inf := fun P p0 p1 x hx => by
    rcases List.mem_append.1 hx with hx | hx
    ·exact p1 x hx
    ·rw [List.mem_singleton.1 hx]; exact p0
   exact ⟨by have := h.l; simp; omega, key (fun i => i.Wt 1) (Inf.Sm.zero.wt (by decide)) h.w, key (fun i => i.Sm) Inf.Sm.zero h.s, by have := h.v0; simp only; omega, by have := h.v1; simp only; omega, h.t0, h.t1, h.c⟩
 ·exact h
theorem LInv.word {es : List PE} {nv nt : Int} {code : List Int} {s : ByteArray} {a : Nat} (ha : a ≤ s.size) (h : LInv es nv nt code) : LInv (wordP es nt code s a).2.1 nv (wordP es nt code s a).2.2.1 (wordP es nt code s a).2.2.2.1 ∧ ((wordP es nt code s a).1.1 = 0 → a ≤ (wordP es nt code s a).2.2.2.2) := by
 obtain ⟨m1, m2, m3, m4⟩ := nextF_le s (s.size - a) a ha
 unfold wordP
 split
 ·rename_i hf
  have hl : es.length ≠ 40 := by
   intro e
   unfold refP at hf
   split at hf
   ·exact absurd hf (by decide)
   ·exact absurd hf (by decide)
  cases hd : defP es nt s (s.size + 2) 2 code [PB.first] Inf.zero (nx s a).2.2 with
  | inr E => exact ⟨h, fun e => absurd e (defP_err es nt s _ _ _ _ _ _ E hd)⟩
  | inl D =>
   obtain ⟨dc, kn, tk, a'⟩ := D
   simp only
   obtain ⟨k1, k2, k3, k4, k5, k6, k7⟩ := defP_sm es h.s nt s _ 2 code [PB.first] Inf.zero (nx s a).2.2 (fun b hb => by rw [List.mem_singleton.1 hb]; exact PB.Sm.z _ rfl Inf.Sm.zero (Int.le_refl _)) (fun e => absurd e (List.cons_ne_nil _ _)) m3 dc kn tk a' hd
   have key : ∀ (P : Inf → Prop), P kn → (∀ x ∈ es, P x.inf) → ∀ x ∈ es ++ [⟨(nx s a).1, false, code.length, kn⟩], P x.inf := fun P p0 p1 x hx => by
    rcases List.mem_append.1 hx with hx | hx
    ·exact p1 x hx
    ·rw [List.mem_singleton.1 hx]; exact p0
   have := h.t0
   have := h.c
   exact ⟨⟨by have := h.l; simp; omega, key (fun i => i.Wt 1) k1 h.w, key (fun i => i.Sm) k2 h.s, h.v0, h.v1, by omega, by omega, by omega⟩, fun _ => Nat.le_trans m2 k6⟩
 ·rename_i hf
  exact ⟨h, fun e => absurd e hf⟩
def loadP (s : ByteArray) : Nat → Nat → List PE → Int → Int → List Int → (Int × Int) × List PE × Int × Int × List Int
 | 0, _, es, nv, nt, code => ((99, 0), es, nv, nt, code)
 | f + 1, a, es, nv, nt, code =>
  if ((nx s a).1.toList == []) = true then ((0, 0), es, nv, nt, code)
  else if ((nx s a).1.toList == [118, 97, 114, 105, 97, 98, 108, 101]) = true then
   if (varP es nv s (nx s a).2.2).1.1 = 0 then loadP s f (nx s (nx s a).2.2).2.2 (varP es nv s (nx s a).2.2).2.1 (varP es nv s (nx s a).2.2).2.2 nt code
   else ((varP es nv s (nx s a).2.2).1, (varP es nv s (nx s a).2.2).2.1, (varP es nv s (nx s a).2.2).2.2, nt, code)
  else if ((nx s a).1.toList == [58]) = true then
   if (wordP es nt code s (nx s a).2.2).1.1 = 0 then loadP s f (wordP es nt code s (nx s a).2.2).2.2.2.2 (wordP es nt code s (nx s a).2.2).2.1 nv (wordP es nt code s (nx s a).2.2).2.2.1 (wordP es nt code s (nx s a).2.2).2.2.2.1
   else ((wordP es nt code s (nx s a).2.2).1, (wordP es nt code s (nx s a).2.2).2.1, nv, (wordP es nt code s (nx s a).2.2).2.2.1, (wordP es nt code s (nx s a).2.2).2.2.2.1)
  else ((3, ((nx s a).2.1 : Int)), es, nv, nt, code)
def loadR (s : ByteArray) (es : List PE) (nv nt : Int) (code : List Int) : (Int × Int) × List PE × Int × Int × List Int :=
 match badF s s.size 0 with
 | some k => ((2, (k : Int)), es, nv, nt, code)
 | none => loadP s (s.size + 1) 0 es nv nt code
def LoadPost (w : World) (bb : Nat) (ev cv : Value) (R : (Int × Int) × List PE × Int × Int × List Int) (e : Ending) (w' : World) : Prop :=
 e = .returned (.tuple #[.int .i64 R.1.1, .int .i64 R.1.2]) ∧ (∃ ev' cv', PSys w' bb ev' cv' R.2.1 R.2.2.1 R.2.2.2.1 R.2.2.2.2 ∧ Tab w' ∧ Lc w ev ev' ∧ Lc w cv cv') ∧ LInv R.2.1 R.2.2.1 R.2.2.2.1 R.2.2.2.2 ∧ Chg (fun k => k = bb ∨ ev.ownBlock = some k ∨ cv.ownBlock = some k) w w'
set_option maxRecDepth 100000 in
set_option maxHeartbeats 4000000 in
theorem book_load {w : World} {bb : Nat} {ev cv : Value} {es : List PE} {nv nt : Int} {code : List Int} (s : ByteArray) (h : PSys w bb ev cv es nv nt code) (ht : Tab w) (hs : s.size ≤ 1100000) (hi : LInv es nv nt code) :
  Calls Tryz.prog 52 #[.pointer (some ⟨bb, 0, none⟩), .string s] w (LoadPost w bb ev cv (loadR s es nv nt code)) := by
 obtain ⟨R, hR⟩ : ∃ R, R = loadR s es nv nt code := ⟨_, rfl⟩
 rw [← hR]
 unfold loadR at hR
 have HB := hidden (tok_broken s w (by omega))
 have HP := hidden h; have HT := hidden ht; have HI := hidden hi
 clear h ht hi
 cases hbad : badF s s.size 0 with
 | some k =>
  rw [hbad] at hR
  simp only at hR
  rw [hbad] at HB
  subst hR
  clear hbad
  go_enter Tryz.func52, Tryz.ntmps52
  go_wp2_with fail
  refine HB.out.mono ?_
  rintro e w1 ⟨rfl, hb1⟩
  simp only [badRes]
  go_wp2_with fail
  exact bodyPost_ret (v := .tuple #[.int .i64 2, .int .i64 k]) (by simp [results, Tryz.results52, go_sem]) rfl ⟨rfl, ⟨_, _, HP.out.below hb1, HT.out.below hb1, Lc.refl _ _, Lc.refl _ _⟩, HI.out, Chg.ofBelow hb1⟩
 | none =>
  rw [hbad] at hR
  simp only at hR
  rw [hbad] at HB
  have HR := hidden hR
  clear hbad hR
  go_enter Tryz.func52, Tryz.ntmps52
  go_wp2_with fail
  refine HB.out.mono ?_
  rintro e w1 ⟨rfl, hb1⟩
  simp only [badRes]
  have H2 := hidden (rd_new s w1)
  have HB1 := hidden hb1
  clear HB hb1
  go_wp2_with fail
  refine H2.out.mono ?_
  rintro e w2 ⟨rfl, hb2, hc2⟩
  obtain ⟨rb, hrb⟩ : ∃ rb, rb = w1.heap.size := ⟨_, rfl⟩
  rw [← hrb] at hb2 ⊢
  have hrw : w.heap.size ≤ rb := by rw [hrb]; exact HB1.out.size
  have hru : 3 ≤ rb := by have := HT.out.lt; omega
  have HBS0 := hidden (BS.mk ((HP.out.below HB1.out).below hc2) ((HT.out.below HB1.out).below hc2) hb2 hru)
  have HC0 := hidden ((Chg.ofBelow HB1.out : Chg (fun k => k = bb ∨ ev.ownBlock = some k ∨ cv.ownBlock = some k) w w1).trans (Chg.ofBelow hc2))
  clear H2 hb2 hc2 hrb HP HT
  go_wp2_with fail
  go_loopw [9] (fun _ wr => ∃ (a f : Nat) (es' : List PE) (nv' nt' : Int) (code' : List Int) (ev' cv' : Value), BS wr bb rb ev' cv' es' nv' nt' code' s a ∧ Hid (R = loadP s f a es' nv' nt' code') ∧ Hid (LInv es' nv' nt' code' ∧ a ≤ s.size ∧ s.size - a + 1 ≤ f ∧ Lc w ev ev' ∧ Lc w cv cv') ∧ Chg (fun k => k = bb ∨ ev.ownBlock = some k ∨ cv.ownBlock = some k) w wr) (fun _ wr => s.size - atOf wr rb)
  case atStart => exact ⟨0, s.size + 1, es, nv, nt, code, ev, cv, HBS0.out, HR, ⟨HI.out, Nat.zero_le _, by omega, Lc.refl _ _, Lc.refl _ _⟩, HC0.out⟩
  case round =>
   clear HBS0 HC0 HR HB1 HI
   obtain ⟨a, f, es', nv', nt', code', ev', cv', hbs, HRR, HJ, hc⟩ := hrel
   obtain ⟨j1, j2, j3, j4, j5⟩ := HJ.out
   obtain ⟨m1, m2, m3, m4⟩ := nextF_le s (s.size - a) a j2
   have hmv := fun hne => nextF_move s (s.size - a) a j2 hne
   have hN := hidden (rd_next rb s a wr j2 (by omega) hbs.rd)
   obtain ⟨x, hx⟩ : ∃ x, x = nextF s (s.size - a) a := ⟨_, rfl⟩
   have hxx : nx s a = x := hx.symm
   rw [← hx] at hN m1 m2 m3 m4 hmv
   obtain ⟨t, pl, b⟩ := x
   simp only at hN m1 m2 m3 m4 hmv
   obtain ⟨f', rfl⟩ : ∃ f', f = f' + 1 := ⟨f - 1, by omega⟩
   have hrr := HRR.out
   rw [loadP, hxx] at hrr
   simp only at hrr
   have hat : atOf wr rb = a := by unfold atOf; rw [show wr.cell? ⟨rb, 1, none⟩ = some (.int .i64 a) from hbs.rd.cell 1 _ rfl]; simp
   have HBS := hidden hbs; have HRF := hidden hrr; have HMV := hidden hmv; have HAT := hidden hat; have HM := hidden (And.intro m1 (And.intro m2 (And.intro m3 m4))); have HC := hidden hc
   clear hbs hrr hx hxx hmv hat m1 m2 m3 m4 j1 j2 j3 j4 j5 HRR hc
   go_wp2_with fail
   refine hN.out.mono ?_
   rintro e w4 ⟨rfl, hb4, hc4⟩
   have hbs4 := HBS.out.next hb4 hc4
   have hbs5 := hbs4.below ((Below.refl _ _).alloc (Nat.le_refl _) (.cells #[.string t, .int .i64 pl] 163 (0, 0)))
   have HB5 := hidden hbs5
   have HC5 := hidden ((HC.out.thru hc4 (fun k hk e => by omega)).alloc (.cells #[.string t, .int .i64 pl] 163 (0, 0)))
   have hbl : b ≤ s.size := HM.out.2.2.1
   have hk5 := blk_new w4 #[.string t, .int .i64 pl] 163
   obtain ⟨W, hW⟩ : ∃ W, W = w4.alloc (.cells #[.string t, .int .i64 pl] 163 (0, 0)) := ⟨_, rfl⟩
   rw [← hW] at HB5 HC5 hk5
   have p0 : W.cell? ⟨w4.heap.size, 0, none⟩ = some (.string t) := hk5.cell 0 _ rfl
   have p1 : W.cell? ⟨w4.heap.size, 1, none⟩ = some (.int .i64 pl) := hk5.cell 1 _ rfl
   have hwl := hk5.lt
   clear hb4 hc4 hbs4 hbs5 HBS HC hN hk5
   by_cases g1 : (t.toList == []) = true
   ·have hRe : R = ((0, 0), es', nv', nt', code') := by have := HRF.out; rw [if_pos g1] at this; exact this
    have HRE := hidden hRe
    clear hRe
    go_wp2_with fail
    rw [← hW, HRE.out]
    obtain ⟨j1, j2, j3, j4, j5⟩ := HJ.out
    exact bodyPost_ret (v := .tuple #[.int .i64 0, .int .i64 0]) (by simp [results, Tryz.results52, go_sem]) rfl ⟨rfl, ⟨_, _, HB5.out.sys, HB5.out.tab, j4, j5⟩, j1, HC5.out⟩
   have g1' : (t.toList == []) = false := by simpa using g1
   have HG1 := hidden g1
   clear g1
   by_cases g2 : (t.toList == [118, 97, 114, 105, 97, 98, 108, 101]) = true
   ·have hr2 := HRF.out
    rw [if_neg HG1.out, if_pos g2] at hr2
    have HRV := hidden hr2
    clear hr2 HRF
    go_wp2_with fail
    rw [← hW]
    have hv := book_loadVariable HB5.out hbl (by omega) (by have := HJ.out.1.l; omega) HJ.out.1.v0 HJ.out.1.v1
    have hvi := HJ.out.1.var (s := s) (a := b)
    obtain ⟨m1, m2, m3, m4⟩ := nextF_le s (s.size - b) b hbl
    have hrv := HRV.out
    obtain ⟨V, hV⟩ : ∃ V, V = varP es' nv' s b := ⟨_, rfl⟩
    rw [← hV] at hv hvi hrv
    obtain ⟨⟨r, q⟩, es6, nv6⟩ := V
    refine hv.mono ?_
    rintro e w6 ⟨rfl, ⟨ev6, hb6, hl6⟩, hc6⟩
    simp only at hb6 hvi hrv ⊢
    obtain ⟨j1, j2, j3, j4, j5⟩ := HJ.out
    have hch := HC5.out.thru hc6 (fun k hk e => e.elim (fun e => by omega) (fun e => e.elim Or.inl (fun e => (j4 k e).elim (fun e => Or.inr (Or.inl e)) (fun e => by omega))))
    have hlc : Lc w ev ev6 := j4.trans (hl6.mono HC5.out.size)
    have HB6 := hidden hb6; have HVI := hidden hvi; have HRR := hidden hrv; have HCH := hidden hch; have HLC := hidden hlc; have HNM := hidden (And.intro m2 m3)
    clear hv hV hb6 hl6 hc6 hvi hrv hch hlc j1 j2 j3 j4 j5 m1 m2 m3 m4 HRV HB5 HC5 p0 p1 hW hwl
    by_cases h0 : r = 0
    ·subst h0
     go_wp2_with fail
     go_roundw
     case rel =>
      have hrv := HRR.out
      rw [if_pos rfl] at hrv
      obtain ⟨j1, j2, j3, j4, j5⟩ := HJ.out
      have hlt := HMV.out g1'
      obtain ⟨m2, m3⟩ := HNM.out
      exact ⟨_, f', es6, nv6, nt', code', ev6, cv', HB6.out, hidden hrv, ⟨HVI.out, m3, by unfold nx; omega, HLC.out, j5⟩, HCH.out⟩
     case measure =>
      have hlt := HMV.out g1'
      obtain ⟨m2, m3⟩ := HNM.out
      obtain ⟨j1, j2, j3, j4, j5⟩ := HJ.out
      have e1 : atOf w6 rb = (nx s b).2.2 := by unfold atOf; rw [show w6.cell? ⟨rb, 1, none⟩ = some (.int .i64 ((nx s b).2.2 : Nat)) from HB6.out.rd.cell 1 _ rfl]; simp
      rw [e1, HAT.out]
      unfold nx
      omega
    ·have h0' : (r == 0) = false := by simpa using h0
     have h0n : (r != 0) = true := by simpa using h0
     have HR0 := hidden h0
     clear h0
     have hRe : R = ((r, q), es6, nv6, nt', code') := by have := HRR.out; rw [if_neg HR0.out] at this; exact this
     have HRE := hidden hRe
     clear hRe
     go_wp2_with fail
     rw [HRE.out]
     exact bodyPost_ret (v := .tuple #[.int .i64 r, .int .i64 q]) (by simp [results, Tryz.results52, go_sem]) rfl ⟨rfl, ⟨_, _, HB6.out.sys, HB6.out.tab, HLC.out, HJ.out.2.2.2.2⟩, HVI.out, HCH.out⟩
   have g2' : (t.toList == [118, 97, 114, 105, 97, 98, 108, 101]) = false := by simpa using g2
   have HG2 := hidden g2
   clear g2
   by_cases g3 : (t.toList == [58]) = true
   ·have hr2 := HRF.out
    rw [if_neg HG1.out, if_neg HG2.out, if_pos g3] at hr2
    have HRV := hidden hr2
    clear hr2 HRF
    go_wp2_with fail
    rw [← hW]
    have hv := book_loadWord HB5.out hbl (by omega) (by have := HJ.out.1.l; omega) HJ.out.1.w HJ.out.1.t0 (by have := HJ.out.1.t1; omega) (by have := HJ.out.1.t1; have := HJ.out.1.c; omega)
    have hvi := HJ.out.1.word (s := s) (a := b) hbl
    have hrv := HRV.out
    obtain ⟨V, hV⟩ : ∃ V, V = wordP es' nt' code' s b := ⟨_, rfl⟩
    rw [← hV] at hv hvi hrv
    obtain ⟨⟨r, q⟩, es6, nt6, code6, a6⟩ := V
    refine hv.mono ?_
    rintro e w6 ⟨rfl, ⟨ev6, cv6, b6, hb6, hs6, ha6, hl6, hl7⟩, hc6⟩
    simp only at hb6 hvi hrv ha6 ⊢
    obtain ⟨j1, j2, j3, j4, j5⟩ := HJ.out
    have hch := HC5.out.thru hc6 (fun k hk e => e.elim (fun e => by omega) (fun e => e.elim Or.inl (fun e => e.elim (fun e => (j4 k e).elim (fun e => Or.inr (Or.inl e)) (fun e => by omega)) (fun e => (j5 k e).elim (fun e => Or.inr (Or.inr e)) (fun e => by omega)))))
    have hlc : Lc w ev ev6 := j4.trans (hl6.mono HC5.out.size)
    have hld : Lc w cv cv6 := j5.trans (hl7.mono HC5.out.size)
    have HB6 := hidden hb6; have HVI := hidden hvi; have HRR := hidden hrv; have HCH := hidden hch; have HLC := hidden hlc; have HLD := hidden hld; have HA6 := hidden ha6; have HS6 := hidden hs6
    clear hv hV hb6 hl6 hl7 hc6 hvi hrv hch hlc hld ha6 hs6 j1 j2 j3 j4 j5 HRV HB5 HC5 p0 p1 hW hwl
    by_cases h0 : r = 0
    ·subst h0
     go_wp2_with fail
     go_roundw
     case rel =>
      have hrv := HRR.out
      rw [if_pos rfl] at hrv
      obtain ⟨j1, j2, j3, j4, j5⟩ := HJ.out
      have hlt := HMV.out g1'
      have e6 := HA6.out rfl
      have hs6 := HS6.out
      have hge := HVI.out.2 rfl
      subst e6
      exact ⟨_, f', es6, nv', nt6, code6, ev6, cv6, HB6.out, hidden hrv, ⟨HVI.out.1, hs6, by omega, HLC.out, HLD.out⟩, HCH.out⟩
     case measure =>
      have hlt := HMV.out g1'
      obtain ⟨j1, j2, j3, j4, j5⟩ := HJ.out
      have e6 := HA6.out rfl
      have hs6 := HS6.out
      have hge := HVI.out.2 rfl
      have e1 : atOf w6 rb = b6 := by unfold atOf; rw [show w6.cell? ⟨rb, 1, none⟩ = some (.int .i64 (b6 : Nat)) from HB6.out.rd.cell 1 _ rfl]; simp
      rw [e1, HAT.out]
      omega
    ·have h0' : (r == 0) = false := by simpa using h0
     have h0n : (r != 0) = true := by simpa using h0
     have HR0 := hidden h0
     clear h0
     have hRe : R = ((r, q), es6, nv', nt6, code6) := by have := HRR.out; rw [if_neg HR0.out] at this; exact this
     have HRE := hidden hRe
     clear hRe
     go_wp2_with fail
     rw [HRE.out]
     exact bodyPost_ret (v := .tuple #[.int .i64 r, .int .i64 q]) (by simp [results, Tryz.results52, go_sem]) rfl ⟨rfl, ⟨_, _, HB6.out.sys, HB6.out.tab, HLC.out, HLD.out⟩, HVI.out.1, HCH.out⟩
   have g3' : (t.toList == [58]) = false := by simpa using g3
   have HG3 := hidden g3
   clear g3
   have hRe : R = ((3, (pl : Int)), es', nv', nt', code') := by have := HRF.out; rw [if_neg HG1.out, if_neg HG2.out, if_neg HG3.out] at this; exact this
   have HRE := hidden hRe
   clear hRe
   go_wp2_with fail
   rw [← hW]
   go_quiet (fail)
   go_wp2_with fail
   rw [HRE.out, ← hW]
   have hbw : Below W.heap.size W (W.drewN nq) := ⟨rfl, rfl, rfl, Nat.le_refl _, fun _ _ => rfl⟩
   obtain ⟨j1, j2, j3, j4, j5⟩ := HJ.out
   exact bodyPost_ret (v := .tuple #[.int .i64 3, .int .i64 pl]) (by simp [results, Tryz.results52, go_sem]) rfl ⟨rfl, ⟨_, _, HB5.out.sys.below hbw, HB5.out.tab.below hbw, j4, j5⟩, j1, HC5.out.trans (Chg.ofBelow hbw)⟩
theorem LInv.zero : LInv [] 0 0 [] := ⟨by simp, by simp, by simp, by omega, by omega, by omega, by omega, by simp⟩
theorem forth_new (w : World) (ht : Tab w) :
  Calls Tryz.prog 23 #[] w fun e w' => ∃ bb, w.heap.size ≤ bb ∧ e = .returned (.pointer (some ⟨bb, 0, none⟩)) ∧ PSys w' bb (.slice none 0 0) (.slice none 0 0) [] 0 0 [] ∧ Below w.heap.size w w' := by
 have HT := hidden ht
 clear ht
 go_enter Tryz.func23, Tryz.ntmps23
 go_wp2_with fail
 exact bodyPost_ret (v := .pointer (some ⟨w.heap.size, 0, none⟩)) (by simp [results, Tryz.results23, go_sem]) rfl ⟨_, Nat.le_refl _, rfl, ⟨blk_new w _ _, ⟨rfl, Or.inl ⟨rfl, rfl⟩⟩, ⟨rfl, Or.inl ⟨rfl, rfl⟩⟩, HT.out.lt⟩, (Below.refl _ _).alloc (Nat.le_refl _) _⟩
theorem forth_book (bb : Nat) (w : World) : Calls Tryz.prog 41 #[.pointer (some ⟨bb, 0, none⟩)] w fun e w' => e = .returned (.pointer (some ⟨bb, 0, none⟩)) ∧ w' = w := by
 go_enter Tryz.func41, Tryz.ntmps41
 go_wp2_with fail
 go_ret
 exact ⟨rfl, rfl⟩
theorem forth_load {w : World} {bb : Nat} {ev cv : Value} {es : List PE} {nv nt : Int} {code : List Int} (s : ByteArray) (h : PSys w bb ev cv es nv nt code) (ht : Tab w) (hs : s.size ≤ 1100000) (hi : LInv es nv nt code) :
  Calls Tryz.prog 24 #[.pointer (some ⟨bb, 0, none⟩), .string s] w (LoadPost w bb ev cv (loadR s es nv nt code)) := by
 have H := hidden (book_load s h ht hs hi)
 obtain ⟨R, hR⟩ : ∃ R, R = loadR s es nv nt code := ⟨_, rfl⟩
 rw [← hR] at H ⊢
 have hb := h.blk.lt
 obtain ⟨⟨r, q⟩, es', nv', nt', code'⟩ := R
 clear h ht hi hR
 go_enter Tryz.func24, Tryz.ntmps24
 go_wp2_with fail
 refine (forth_book bb _).mono ?_
 rintro e w' ⟨rfl, rfl⟩
 go_wp2_with fail
 refine H.out.mono ?_
 rintro e w' ⟨rfl, h2⟩
 have H2 := hidden h2
 clear H h2
 go_wp2_with fail
 exact bodyPost_ret (v := .tuple #[.int .i64 r, .int .i64 q]) (by simp [results, Tryz.results24, go_sem]) rfl ⟨rfl, H2.out⟩
theorem forth_find {w : World} {bb : Nat} {ev cv : Value} {es : List PE} {nv nt : Int} {code : List Int} (s : ByteArray) (h : PSys w bb ev cv es nv nt code) (hl : es.length ≤ 1000) :
  Calls Tryz.prog 18 #[.pointer (some ⟨bb, 0, none⟩), .string s] w fun e w' => e = .returned (findRes (lastP es s es.length)) ∧ Below w.heap.size w w' := by
 have HL := hidden (fun w' hb => book_Find s (h.below (w' := w') hb) hl)
 have hb := h.blk.lt
 obtain ⟨R, hR⟩ : ∃ R, R = lastP es s es.length := ⟨_, rfl⟩
 rw [← hR] at HL ⊢
 clear h hR
 obtain ⟨a1, a2, a3, a4, a5, f, hl1⟩ : ∃ (a1 a2 a3 a4 : Int) (a5 : Bool) (f : Int), findRes R = .tuple #[.agg #[.int .i64 a1, .int .i64 a2, .int .i64 a3, .int .i64 a4, .bool a5], .int .i64 f] := by
  rcases R with _ | ⟨n, v, p, i⟩
  ·exact ⟨_, _, _, _, _, _, rfl⟩
  ·cases v
   ·exact ⟨_, _, _, _, _, _, rfl⟩
   ·exact ⟨_, _, _, _, _, _, rfl⟩
 rw [hl1] at HL ⊢
 clear hl1
 go_enter Tryz.func18, Tryz.ntmps18
 go_wp2_with fail
 have hb0 : Below w.heap.size w (w.alloc (.cells zero5 36 (0, 0))) := (Below.refl _ _).alloc (Nat.le_refl _) _
 have hk0 := blk_new w zero5 36
 refine (forth_book bb _).mono ?_
 rintro e w' ⟨rfl, rfl⟩
 go_wp2_with fail
 refine (HL.out _ hb0).mono ?_
 rintro e w1 ⟨rfl, hb1⟩
 have hk1 := hk0.sub hb1 (by simp)
 have hlt1 := hk1.lt
 have hbw : Below w.heap.size w w1 := hb0.trans (hb1.mono (by simp))
 have HBW := hidden hbw
 have HK1 := hidden hk1
 clear hb0 hk0 hb1 hk1 hbw HL
 obtain ⟨g0, g1, g2, g3, g4⟩ := HK1.out.free
 obtain ⟨z0, z1, z2, z3, z4⟩ := HK1.out.zero
 go_wp2_with fail
 refine bodyPost_ret (v := .tuple #[.agg #[.int .i64 a1, .int .i64 a2, .int .i64 a3, .int .i64 a4, .bool a5], .int .i64 f]) (by simp [results, Tryz.results18, go_sem, z0, z1, z2, z3, z4, hlt1]) rfl ⟨rfl, ?_⟩
 exact ((((HBW.out.setCell (Nat.le_refl _) _).setCell (Nat.le_refl _) _).setCell (Nat.le_refl _) _).setCell (Nat.le_refl _) _).setCell (Nat.le_refl _) _
def pColon (ws : List RW) (k : Int) (toks : List Tk) (fin : Int) (f I : Nat) : (ByteArray × List AI × Nat) ⊕ (Int × Int) :=
 if nameS (tokS toks I) = false then .inr (4, plc toks fin I)
 else if 40 ≤ ws.length then .inr (8, plc toks fin I)
 else match pItems ws toks fin f [tSemi] 0 [] (I + 1) with
  | .inr E => .inr E
  | .inl (l, _, I') =>
   if 1000000000 < (infL l).steps + 1 then .inr (7, plc toks fin (I' - 1))
   else if 400 < k + I' - ((I : Int) - 1) then .inr (8, plc toks fin (I' - 1))
   else .inl (tokS toks I, l, I')
def wInf (l : List AI) : Inf := { infL l with steps := (infL l).steps + 1 }
theorem ref_eq {es : List PE} {ws : List RW} (hA : Alike es ws) (hl : es.length ≤ 40) {s : ByteArray} {toks : List Tk} {I a : Nat} (hat : At s toks I a) (hI : I ≤ toks.length) :
  refP es (nx s a).1 = if nameS (tokS toks I) = false then 4 else if 40 ≤ ws.length then 8 else 0 := by
 unfold refP
 rw [hat.name hI]
 have := hA.len
 cases nameS (tokS toks I) with
 | false => simp
 | true =>
  simp only [if_true, Bool.true_eq_false, if_false]
  by_cases h : 40 ≤ ws.length
  ·rw [if_pos h, if_pos (by omega)]
  ·rw [if_neg h, if_neg (by omega)]
theorem Alike.push {es : List PE} {ws : List RW} (h : Alike es ws) {x : PE} {y : RW} (hn : x.name = y.name) (hu : (x.var = true → y.var = x.place ∧ 0 ≤ y.var) ∧ (x.var = false → y.var = -1 ∧ x.inf = y.inf ∧ y.inf.Nn ∧ 1 ≤ y.inf.steps ∧ y.inf.steps ≤ 1000000000)) : Alike (es ++ [x]) (ws ++ [y]) := by
 refine ⟨by simp [h.names, hn], fun k a b h1 h2 => ?_⟩
 have hl := h.len
 by_cases hk : k < es.length
 ·rw [List.getElem?_append_left hk] at h1
  rw [List.getElem?_append_left (by omega)] at h2
  exact h.use k a b h1 h2
 ·rw [List.getElem?_append_right (by omega)] at h1
  rw [List.getElem?_append_right (by omega)] at h2
  rw [← hl] at h2
  by_cases e : k - es.length = 0
  ·rw [e] at h1 h2; simp at h1 h2; subst h1; subst h2; exact hu
  ·rw [List.getElem?_eq_none (by simp; omega)] at h1; cases h1
theorem name_some {t : ByteArray} (h : nameS t = true) : t.toList ≠ [] := by
 intro e
 have : t = ⟨#[]⟩ := (ext_list t []).1 (by simp [e])
 subst this
 exact absurd h (by decide +kernel)
theorem pItems_E0 (ws : List RW) (toks : List Tk) (fin : Int) : ∀ (f : Nat) (ends : List ByteArray) (loops : Int) (acc : List AI) (I : Nat) (E : Int × Int), pItems ws toks fin f ends loops acc I = .inr E → E.1 ≠ 0 := by
 intro f
 induction f with
 | zero => intro ends loops acc I E h; simp [pItems] at h; subst h; decide
 | succ f ih =>
  intro ends loops acc I E h
  rw [pItems] at h
  split at h
  ·cases h
  split at h
  ·cases h; simp
  split at h
  ·exact ih _ _ _ _ _ h
  split at h
  ·split at h
   ·rename_i r hr; cases h; exact ih _ _ _ _ _ hr
   ·split at h
    ·split at h
     ·rename_i r hr; cases h; exact ih _ _ _ _ _ hr
     ·split at h
      ·exact ih _ _ _ _ _ h
      ·cases h; simp
    ·split at h
     ·exact ih _ _ _ _ _ h
     ·cases h; simp
  split at h
  ·split at h
   ·cases h; simp
   ·split at h
    ·cases h; simp
    ·split at h
     ·rename_i r hr; cases h; exact ih _ _ _ _ _ hr
     ·split at h
      ·exact ih _ _ _ _ _ h
      ·cases h; simp
  split at h
  ·exact ih _ _ _ _ _ h
  ·rename_i hw; cases h; exact hw
theorem toks_len (s : ByteArray) : ∀ (f i : Nat), (toksF s f i).length ≤ f
 | 0, i => by simp [toksF]
 | f + 1, i => by
  unfold toksF
  split
  ·split
   ·have := toks_len s f (i + 1); omega
   ·split
    ·have := toks_len s f (scan eol s (scan blk s i)); omega
    ·have := toks_len s f (scan blk s i); simp; omega
  ·simp
theorem colon_eq {es : List PE} {ws : List RW} (hA : Alike es ws) {nv nt : Int} {code : List Int} (hL : LInv es nv nt code) {s : ByteArray} {toks : List Tk} (htk : toks.length ≤ s.size) {I a : Nat} (hat : At s toks I a) (hI : I ≤ toks.length) (hI1 : 1 ≤ I) (f : Nat) (hf : toks.length + 1 ≤ f) :
  match pColon ws nt toks s.size f I with
  | .inr E => E.1 ≠ 0 ∧ wordP es nt code s a = (E, es, nt, code, 0)
  | .inl (t, l, I') => I < I' ∧ I' ≤ toks.length ∧ t = tokS toks I ∧ (infL l).Nn ∧ (infL l).steps + 1 ≤ 1000000000 ∧ pItems ws toks s.size f [tSemi] 0 [] (I + 1) = .inl (l, tokS toks (I' - 1), I') ∧ ∃ dc a', wordP es nt code s a = ((0, 0), es ++ [⟨t, false, code.length, wInf l⟩], nt + (I' - ((I : Int) - 1)), dc, a') ∧ At s toks I' a' ∧ (∃ q, CList es dc false (trees l) code.length q ∧ dc[q]? = some 34) ∧ ∀ i, i < code.length → dc[i]? = code[i]? := by
 unfold pColon wordP
 rw [ref_eq hA hL.l hat hI]
 obtain ⟨n1, n2, n3⟩ := hat.next hI
 cases hnm : nameS (tokS toks I) with
 | false =>
  simp only [if_true]
  exact ⟨by simp, by rw [if_neg (by decide), n2]⟩
 | true =>
  simp only [Bool.true_eq_false, if_false]
  by_cases hfull : 40 ≤ ws.length
  ·rw [if_pos hfull, if_pos hfull, if_neg (by decide), n2]
   exact ⟨by simp, rfl⟩
  ·rw [if_neg hfull, if_neg hfull, if_pos rfl]
   obtain ⟨hlt, hat1⟩ := n3.resolve_left (name_some hnm)
   have hB : BR PB.first [] 0 := ⟨rfl, Inf.Nn.zero, rfl, rfl⟩
   have H := def_items hA nt s toks f [tSemi] 0 [] (I + 1) (s.size + 2) 2 code PB.first [] Inf.zero (nx s a).2.2 (by omega) (by omega) (by omega) hat1 hB (by omega) (Or.inr (Or.inr (Or.inr rfl))) rfl
   cases hp : pItems ws toks s.size f [tSemi] 0 [] (I + 1) with
   | inr E =>
    rw [hp] at H
    have hE := pItems_E0 _ _ _ _ _ _ _ _ _ hp
    have H' : defP es nt s (s.size + 2) 2 code [PB.first] Inf.zero (nx s a).2.2 = .inr E := H
    simp only [H']
    exact ⟨hE, trivial⟩
   | inl x =>
    obtain ⟨l, t', I'⟩ := x
    rw [hp] at H
    obtain ⟨a1, a2, a3, a4, g1, dc1, b1, p1, a5, a6, a7, a8, a9, a10⟩ := H
    obtain ⟨⟨c1, c2⟩, c3⟩ := a10 code.length (CO.nil es code 0)
    obtain ⟨g1, rfl⟩ : ∃ g0, g1 = g0 + 1 + 1 := ⟨g1 - 2, by omega⟩
    obtain ⟨m1, m2, m3⟩ := a7.next (by omega)
    rw [← a4] at m1
    have hta : t'.toList = [59] := by
     exact end_semi a3
    have hta' : (nx s p1).1.toList = [59] := by rw [m1]; exact hta
    have hop1 : b1.opener = 34 := a8.op
    have hdoes : b1.does = infL l := a9.does
    have hmore : b1.does.then (opInf 34) = (infL l).more := by rw [op_none.2.2.2, hdoes]; exact then_one a9.nn
    have m4 : At s toks I' (nx s p1).2.2 := by
     rcases m3 with m3 | ⟨_, m3⟩
     ·rw [← a4, hta] at m3; cases m3
     ·rw [show I' - 1 + 1 = I' by omega] at m3; exact m3
    have htk2 : (2 : Int) + ((I' - 1 - (I + 1) : Nat) : Int) + 1 = I' - ((I : Int) - 1) := by omega
    have hs : stepP es nt ((2 : Int) + ((I' - 1 - (I + 1) : Nat) : Int) + 1) dc1 [b1] Inf.zero (nx s p1).1 = (endErr (infL l).more.steps nt (I' - ((I : Int) - 1)), dc1 ++ [34], [], (infL l).more) := by
     rw [← htk2, ← hmore]
     simp [stepP, hta', hop1]
    have hst : (infL l).more.steps = min ((infL l).steps + 1) 1000000001 := rfl
    simp only
    by_cases h7 : 1000000000 < (infL l).steps + 1
    ·rw [if_pos h7]
     have he : endErr (infL l).more.steps nt (I' - ((I : Int) - 1)) = 7 := by unfold endErr; rw [if_pos (by omega)]
     rw [a5, defP_err1 (E := 7) (by rw [hs, he]) (by decide), m2]
     exact ⟨by simp, rfl⟩
    ·rw [if_neg h7]
     by_cases h8 : 400 < nt + I' - ((I : Int) - 1)
     ·rw [if_pos h8]
      have he : endErr (infL l).more.steps nt (I' - ((I : Int) - 1)) = 8 := by unfold endErr; rw [if_neg (by omega), if_pos (by omega)]
      rw [a5, defP_err1 (E := 8) (by rw [hs, he]) (by decide), m2]
      exact ⟨by simp, rfl⟩
     ·rw [if_neg h8]
      have he : endErr (infL l).more.steps nt (I' - ((I : Int) - 1)) = 0 := by unfold endErr; rw [if_neg (by omega), if_neg (by omega)]
      rw [he] at hs
      have hw : (infL l).more = wInf l := by
       refine Inf.ext' rfl rfl rfl ?_ rfl
       show min ((infL l).steps + 1) 1000000001 = (infL l).steps + 1
       omega
      rw [a5, defP_ok1 hs, htk2, hw]
      refine ⟨by omega, a2, rfl, a9.nn, by omega, by rw [a4], dc1 ++ [34], (nx s p1).2.2, ?_, m4, ⟨dc1.length, c2.stable c1 (fun _ _ => id) (fun i _ hi => List.getElem?_append_left hi), by simp⟩, fun i hi => (List.getElem?_append_left (by omega)).trans (c3 i hi)⟩
      simp [defP, n1]
structure Coded (es : List PE) (code : List Int) (ws : List RW) : Prop where
 w : ∀ (k : Nat) (x : PE) (y : RW), es[k]? = some x → ws[k]? = some y → x.var = false → ∃ p q : Nat, x.place = p ∧ p ≤ code.length ∧ CList es code false y.its p q ∧ code[q]? = some 34
 v : ∀ (k : Nat) (x : PE), es[k]? = some x → x.var = true → 0 ≤ x.place ∧ x.place ≤ 16
structure Alk (es : List PE) (code : List Int) (ws : List RW) : Prop extends Alike es ws where
 coded : Coded es code ws
theorem Coded.nil : Coded [] [] [] := ⟨fun k x y h => by simp at h, fun k x h => by simp at h⟩
theorem Coded.push {es : List PE} {code code' : List Int} {ws : List RW} (h : Coded es code ws) (hl : es.length = ws.length) {x : PE} {y : RW} (hc : ∀ i, i < code.length → code'[i]? = code[i]?) (hle : code.length ≤ code'.length)
  (h1 : x.var = false → ∃ p q : Nat, x.place = p ∧ p ≤ code'.length ∧ CList es code' false y.its p q ∧ code'[q]? = some 34) (h2 : x.var = true → 0 ≤ x.place ∧ x.place ≤ 16) : Coded (es ++ [x]) code' (ws ++ [y]) := by
 have he : ∀ (k : Nat) (z : PE), es[k]? = some z → (es ++ [x])[k]? = some z := fun k z hz => by rw [List.getElem?_append_left (List.getElem?_eq_some_iff.1 hz).1]; exact hz
 refine ⟨fun k a b ha hb hv => ?_, fun k a ha hv => ?_⟩
 ·by_cases hk : k < es.length
  ·rw [List.getElem?_append_left hk] at ha
   rw [List.getElem?_append_left (by omega)] at hb
   obtain ⟨p, q, e1, e2, e3, e4⟩ := h.w k a b ha hb hv
   have hq := e3.le e2
   have := code_lt e4
   exact ⟨p, q, e1, by omega, e3.stable e2 he (fun i _ hi => hc i (by omega)), (hc q (by omega)).trans e4⟩
  ·rw [List.getElem?_append_right (by omega)] at ha
   rw [List.getElem?_append_right (by omega), ← hl] at hb
   have h0 : k - es.length = 0 := by have := (List.getElem?_eq_some_iff.1 ha).1; simp at this; omega
   rw [h0] at ha hb
   obtain rfl : x = a := by simpa using ha
   obtain rfl : y = b := by simpa using hb
   obtain ⟨p, q, e1, e2, e3, e4⟩ := h1 hv
   exact ⟨p, q, e1, e2, e3.stable e2 he (fun _ _ _ => rfl), e4⟩
 ·by_cases hk : k < es.length
  ·rw [List.getElem?_append_left hk] at ha; exact h.v k a ha hv
  ·rw [List.getElem?_append_right (by omega)] at ha
   have h0 : k - es.length = 0 := by have := (List.getElem?_eq_some_iff.1 ha).1; simp at this; omega
   rw [h0] at ha
   obtain rfl : x = a := by simpa using ha
   exact h2 hv
theorem var_eq {es : List PE} {ws : List RW} (hA : Alike es ws) {nv nt : Int} {code : List Int} (hL : LInv es nv nt code) {s : ByteArray} {toks : List Tk} {I a : Nat} (hat : At s toks I a) (hI : I ≤ toks.length) :
  varP es nv s a = if nameS (tokS toks I) = false then ((4, plc toks s.size I), es, nv) else if 40 ≤ ws.length then ((8, plc toks s.size I), es, nv) else if 16 ≤ nv then ((8, plc toks s.size I), es, nv) else ((0, 0), es ++ [⟨tokS toks I, true, nv, Inf.zero⟩], nv + 1) := by
 unfold varP
 rw [ref_eq hA hL.l hat hI]
 obtain ⟨n1, n2, n3⟩ := hat.next hI
 have := hL.v1
 cases hnm : nameS (tokS toks I) with
 | false => simp [n2]
 | true =>
  simp only [Bool.true_eq_false, if_false]
  by_cases hfull : 40 ≤ ws.length
  ·simp [hfull, n2]
  ·rw [if_neg hfull, if_neg hfull, if_pos rfl]
   by_cases h16 : 16 ≤ nv
   ·rw [if_pos h16, if_pos (by omega), n2]
   ·rw [if_neg h16, if_neg (by omega), n1]
def vrE (ws : List RW) (c : Int) (t : ByteArray) : Int := if nmE ws t = 0 then (if 16 ≤ c then 8 else 0) else nmE ws t
theorem nmE_def (ws : List RW) (t : ByteArray) : (if nameS t = false then (4 : Int) else if 40 ≤ ws.length then 8 else 0) = nmE ws t := rfl
structure LD (s : ByteArray) (toks : List Tk) (R : (Int × Int) × List PE × Int × Int × List Int) (I a f : Nat) (es : List PE) (nv nt : Int) (code : List Int) (ws : List RW) : Prop where
 at_ : At s toks I a
 le : I ≤ toks.length
 alike : Alk es code ws
 inv : LInv es nv nt code
 res : R = loadP s f a es nv nt code
 fuel : s.size - a + 1 ≤ f
 ok : ∀ x ∈ ws, x.inf.Wt 1 ∧ ∃ a n c, x.items = .slice a n c
theorem toks_ne (s : ByteArray) : ∀ (f i : Nat), ∀ x ∈ toksF s f i, x.1.toList ≠ []
 | 0, i => by simp [toksF]
 | f + 1, i => by
  unfold toksF
  split
  ·rename_i hi
   split
   ·exact toks_ne s f (i + 1)
   ·rename_i hb
    split
    ·exact toks_ne s f _
    ·intro x hx
     rcases List.mem_cons.1 hx with rfl | hx
     ·intro e
      have hlt := scan_blk_lt s i hi (by simpa using hb)
      have hle := (scan_spec blk s i (by omega)).2.1
      have h1 : (s.extract i (scan blk s i)).size = scan blk s i - i := by simp [ByteArray.size_extract]; omega
      have h2 : s.extract i (scan blk s i) = ⟨#[]⟩ := (ext_list _ []).1 (by simpa using e)
      rw [h2] at h1
      have : (ByteArray.mk #[]).size = 0 := rfl
      omega
     ·exact toks_ne s f _ x hx
  ·simp
theorem tok_ne {s : ByteArray} {toks : List Tk} (ht : toks = toksAt s 0) {I : Nat} (h : I < toks.length) : (tokS toks I).toList ≠ [] := by
 have hm : toks[I] ∈ toks := List.getElem_mem h
 have : tokS toks I = toks[I].1 := by simp [tokS, h]
 rw [this]
 exact toks_ne s (s.size - 0) 0 _ (by unfold toksAt at ht; rw [← ht]; exact hm)
section
variable {s : ByteArray} {toks : List Tk} {R : (Int × Int) × List PE × Int × Int × List Int} {I a f : Nat} {es : List PE} {nv nt : Int} {code : List Int} {ws : List RW}
theorem LD.done (h : LD s toks R I a f es nv nt code ws) (hI : ¬ I < toks.length) : R = ((0, 0), es, nv, nt, code) := by
 obtain ⟨n1, n2, n3⟩ := h.at_.next h.le
 have hf := h.fuel
 obtain ⟨f', rfl⟩ : ∃ f', f = f' + 1 := ⟨f - 1, by omega⟩
 have he : (tokS toks I).toList = [] := n3.resolve_right (fun e => hI e.1)
 rw [h.res, loadP, n1]
 simp [he]
theorem LD.more (h : LD s toks R I a f es nv nt code ws) (ht : toks = toksAt s 0) (hI : I < toks.length) :
  ∃ f', f = f' + 1 ∧ (nx s a).1 = tokS toks I ∧ ((nx s a).2.1 : Int) = plc toks s.size I ∧ ((tokS toks I).toList == []) = false ∧ At s toks (I + 1) (nx s a).2.2 ∧ a < (nx s a).2.2 ∧ (nx s a).2.2 ≤ s.size := by
 obtain ⟨n1, n2, n3⟩ := h.at_.next h.le
 have hf := h.fuel
 have hne := tok_ne ht hI
 have hat := (n3.resolve_left hne).2
 have hne' : ((tokS toks I).toList == []) = false := by simpa using hne
 exact ⟨f - 1, by omega, n1, n2, hne', hat, nextF_move s (s.size - a) a h.at_.le (by rw [show (nextF s (s.size - a) a).1 = (nx s a).1 from rfl, n1]; exact hne'), hat.le⟩
theorem LD.bad (h : LD s toks R I a f es nv nt code ws) (ht : toks = toksAt s 0) (hI : I < toks.length) (h1 : ((tokS toks I).toList == [118, 97, 114, 105, 97, 98, 108, 101]) = false) (h2 : ((tokS toks I).toList == [58]) = false) : R = ((3, plc toks s.size I), es, nv, nt, code) := by
 obtain ⟨f', rfl, n1, n2, n3, n4, n5, n6⟩ := h.more ht hI
 rw [h.res, loadP, n1, n2]
 simp only [n3, h1, h2, Bool.false_eq_true, if_false]
theorem LD.var_err (h : LD s toks R I a f es nv nt code ws) (ht : toks = toksAt s 0) (hI : I < toks.length) (h1 : ((tokS toks I).toList == [118, 97, 114, 105, 97, 98, 108, 101]) = true) (hE : vrE ws nv (tokS toks (I + 1)) ≠ 0) : R = ((vrE ws nv (tokS toks (I + 1)), plc toks s.size (I + 1)), es, nv, nt, code) := by
 obtain ⟨f', rfl, n1, n2, n3, n4, n5, n6⟩ := h.more ht hI
 have hv := var_eq h.alike.toAlike h.inv n4 (by omega)
 rw [h.res, loadP, n1]
 simp only [n3, h1, Bool.false_eq_true, if_false, if_true]
 unfold vrE at hE ⊢
 rw [← nmE_def] at hE ⊢
 cases hn : nameS (tokS toks (I + 1)) with
 | false =>
  rw [hn] at hv
  simp only [if_true] at hv
  simp [hv]
 | true =>
  rw [hn] at hv hE
  simp only [Bool.true_eq_false, if_false] at hv hE ⊢
  by_cases h40 : 40 ≤ ws.length
  ·rw [if_pos h40] at hv
   simp [hv, h40]
  ·rw [if_neg h40] at hv hE
   by_cases h16 : 16 ≤ nv
   ·rw [if_pos h16] at hv
    simp [hv, h40, h16]
   ·simp [h16] at hE
theorem LD.var_ok (h : LD s toks R I a f es nv nt code ws) (ht : toks = toksAt s 0) (hI : I < toks.length) (h1 : ((tokS toks I).toList == [118, 97, 114, 105, 97, 98, 108, 101]) = true) (hE : vrE ws nv (tokS toks (I + 1)) = 0) :
  ∃ a' f' es', LD s toks R (I + 2) a' f' es' (nv + 1) nt code (ws ++ [⟨tokS toks (I + 1), nv, .slice none 0 0, ⟨0, 0, 0, 0, false⟩, []⟩]) := by
 obtain ⟨f', rfl, n1, n2, n3, n4, n5, n6⟩ := h.more ht hI
 have hv := var_eq h.alike.toAlike h.inv n4 (by omega)
 have hli := h.inv.var (s := s) (a := (nx s a).2.2)
 obtain ⟨m1, m2, m3⟩ := n4.next (by omega)
 have hres := h.res
 rw [loadP, n1] at hres
 simp only [n3, h1, Bool.false_eq_true, if_false, if_true] at hres
 unfold vrE at hE
 rw [← nmE_def] at hE
 cases hn : nameS (tokS toks (I + 1)) with
 | false => rw [hn] at hE; simp at hE
 | true =>
  rw [hn] at hv hE
  simp only [Bool.true_eq_false, if_false] at hv hE
  by_cases h40 : 40 ≤ ws.length
  ·simp [h40] at hE
  ·rw [if_neg h40] at hv hE
   by_cases h16 : 16 ≤ nv
   ·simp [h16] at hE
   ·rw [if_neg h16] at hv
    rw [hv] at hres hli
    simp only [if_true] at hres hli
    obtain ⟨hlt, hat⟩ := m3.resolve_left (name_some hn)
    have hv0 := h.inv.v0
    obtain ⟨q1, q2, q3, q4⟩ := nextF_le s (s.size - (nx s a).2.2) (nx s a).2.2 n6
    refine ⟨_, f', _, hat, by omega, ⟨h.alike.toAlike.push rfl ⟨fun _ => ⟨rfl, hv0⟩, fun e => by cases e⟩, h.alike.coded.push h.alike.len (fun _ _ => rfl) (Nat.le_refl _) (fun e => by cases e) (fun _ => ⟨hv0, by have := h.inv.v1; show nv ≤ 16; omega⟩)⟩, hli, hres, ?_, ?_⟩
    ·have := h.fuel; unfold nx at *; omega
    ·intro x hx
     rcases List.mem_append.1 hx with hx | hx
     ·exact h.ok x hx
     ·rw [List.mem_singleton.1 hx]
      exact ⟨by constructor <;> simp, _, _, _, rfl⟩
theorem LD.word_err (h : LD s toks R I a f es nv nt code ws) (ht : toks = toksAt s 0) (hI : I < toks.length) (h1 : ((tokS toks I).toList == [118, 97, 114, 105, 97, 98, 108, 101]) = false) (h2 : ((tokS toks I).toList == [58]) = true) (F : Nat) (hF : toks.length + 1 ≤ F) {E : Int × Int} (hE : pColon ws nt toks s.size F (I + 1) = .inr E) : R = (E, es, nv, nt, code) := by
 obtain ⟨f', rfl, n1, n2, n3, n4, n5, n6⟩ := h.more ht hI
 have hl : toks.length ≤ s.size := by rw [ht]; unfold toksAt; have := toks_len s (s.size - 0) 0; omega
 have hw := colon_eq h.alike.toAlike h.inv hl n4 (by omega) (by omega) F hF
 rw [hE] at hw
 rw [h.res, loadP, n1]
 simp only [n3, h1, h2, Bool.false_eq_true, if_false, if_true]
 rw [hw.2]
 simp only
 rw [if_neg hw.1]
theorem LD.word_ok (h : LD s toks R I a f es nv nt code ws) (ht : toks = toksAt s 0) (hI : I < toks.length) (h1 : ((tokS toks I).toList == [118, 97, 114, 105, 97, 98, 108, 101]) = false) (h2 : ((tokS toks I).toList == [58]) = true) (F : Nat) (hF : toks.length + 1 ≤ F) {t : ByteArray} {l : List AI} {I' : Nat} (hE : pColon ws nt toks s.size F (I + 1) = .inl (t, l, I')) {v : Value} (hv : ∃ a n c, v = .slice a n c) :
  I + 1 < I' ∧ ∃ a' f' es' code', LD s toks R I' a' f' es' nv (nt + I' - (((I + 1 : Nat) : Int) - 1)) code' (ws ++ [⟨t, -1, v, wInf l, trees l⟩]) := by
 obtain ⟨f', rfl, n1, n2, n3, n4, n5, n6⟩ := h.more ht hI
 have hl : toks.length ≤ s.size := by rw [ht]; unfold toksAt; have := toks_len s (s.size - 0) 0; omega
 have hw := colon_eq h.alike.toAlike h.inv hl n4 (by omega) (by omega) F hF
 have hli := h.inv.word (s := s) (a := (nx s a).2.2) n6
 rw [hE] at hw
 obtain ⟨w1, w2, w3, w4, w5, w6, dc, a', w7, w8, ⟨q9, w9, w10⟩, w11⟩ := hw
 have hle : code.length ≤ dc.length := by
  rcases Nat.lt_or_ge dc.length code.length with h | h
  ·have := w11 dc.length h
   rw [List.getElem?_eq_none (Nat.le_refl _), List.getElem?_eq_getElem h] at this; cases this
  ·exact h
 have hres := h.res
 rw [loadP, n1] at hres
 simp only [n3, h1, h2, Bool.false_eq_true, if_false, if_true] at hres
 rw [w7] at hres hli
 simp only [if_true] at hres hli
 have e1 : nt + (((I' : Nat) : Int) - (((I + 1 : Nat) : Int) - 1)) = nt + I' - (((I + 1 : Nat) : Int) - 1) := by omega
 rw [e1] at hres hli
 have hnn : (wInf l).Nn := by
  obtain ⟨a1, a2, a3, a4, a5, a6⟩ := w4
  constructor <;> simp only [wInf] <;> omega
 have hs1 : 1 ≤ (wInf l).steps := by have := w4.s; simp only [wInf]; omega
 refine ⟨w1, a', f', _, dc, w8, w2, ⟨h.alike.toAlike.push rfl ⟨(fun e => by cases e), fun _ => ⟨rfl, rfl, hnn, hs1, w5⟩⟩, h.alike.coded.push h.alike.len w11 hle (fun _ => ⟨code.length, q9, rfl, hle, w9, w10⟩) (fun e => by cases e)⟩, hli.1, hres, ?_, ?_⟩
 ·have := h.fuel; have := hli.2 trivial; omega
 ·intro x hx
  rcases List.mem_append.1 hx with hx | hx
  ·exact h.ok x hx
  ·rw [List.mem_singleton.1 hx]
   exact ⟨hli.1.w ⟨t, false, code.length, wInf l⟩ (by simp), hv⟩
end
section
variable {s t : ByteArray} {d : Nat} {K K' : Nat → Prop}
end
section
variable {s : ByteArray} {m : Nat}
end
section
variable {s : ByteArray}
end
section
variable (t : ByteArray)
end
attribute [local go_sem] quietG
end Go.Proofs.YtcphhbofjkenaaaGreatDoor
namespace Go.Proofs.YtcphhbofjkenaaaGreatDoor
open Go Go.RowKit
set_option linter.unusedVariables false
set_option linter.unusedSimpArgs false
attribute [local go_sem] quietG
end Go.Proofs.YtcphhbofjkenaaaGreatDoor
namespace Go.Proofs.YtcphhbofjkenaaaGreatDoor
open Go Go.RowKit
set_option linter.unusedVariables false
set_option linter.unusedSimpArgs false
abbrev WsOk (ws : List RW) : Prop := ∀ x ∈ ws, x.inf.Wt 1 ∧ ∃ a n c, x.items = .slice a n c
end Go.Proofs.YtcphhbofjkenaaaGreatDoor
namespace Go.Proofs.YtcphhbofjkenaaaGreatDoor
open Go Go.RowKit
set_option linter.unusedVariables false
set_option linter.unusedSimpArgs false
set_option linter.unnecessarySimpa false
end Go.Proofs.YtcphhbofjkenaaaGreatDoor
