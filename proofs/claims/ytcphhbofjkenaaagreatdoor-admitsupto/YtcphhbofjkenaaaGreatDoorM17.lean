/- The document's answer: items. -/
import Derived.Test.YtcphhbofjkenaaaGreatDoorM16

namespace Go.Proofs.YtcphhbofjkenaaaGreatDoor
open Go Go.RowKit
set_option linter.unusedVariables false
set_option linter.unusedSimpArgs false

/-- Where reading items stands: going on, or at an error. -/
def ItInv (rb sb : Nat) (tv sv : Value) (toks : List Tk) (ws : List RW) (c k : Int) (I : Nat) (fin A loops : Int) (ends : List ByteArray) (w : World) (R : PR) (v : Value) (wr : World) : Prop :=
  (∃ (J f : Nat) (acc : List AI) (xs : List (Array Value)) (F : Nat → Prop), I ≤ J ∧ J ≤ toks.length ∧ toks.length + 1 - J ≤ f ∧ acc.length ≤ J - I ∧ R = pItems ws toks fin f ends loops acc J ∧ Blk wr rb (rdr sb tv J fin 0 A) 181 ∧ Chg (fun b => b = rb) w wr ∧ ItemsAt sb sv ws c k wr w.heap.size v acc xs F) ∨
  (∃ (E P : Int) (J : Nat) (ad : Option Addr) (m cap : Nat), E ≠ 0 ∧ v = .slice ad m cap ∧ R = .inr (E, P) ∧ Blk wr rb (rdr sb tv J fin E P) 181 ∧ Chg (fun b => b = rb) w wr)

def itM (n rb : Nat) (wr : World) : Nat :=
  match wr.cell? ⟨rb, 4, none⟩, wr.cell? ⟨rb, 2, none⟩ with
  | some (.int _ E), some (.int _ J) => if E = 0 then n + 2 - J.toNat else 0
  | _, _ => 0
theorem itM_on {n rb sb : Nat} {tv : Value} {J : Nat} {fin A : Int} {wr : World} (h : Blk wr rb (rdr sb tv J fin 0 A) 181) : itM n rb wr = n + 2 - J := by
  unfold itM; rw [h.rdr.2.2.1, h.rdr.2.2.2.2.1]; simp
theorem itM_off {n rb sb : Nat} {tv : Value} {J : Nat} {fin E A : Int} {wr : World} (h : Blk wr rb (rdr sb tv J fin E A) 181) (hE : E ≠ 0) : itM n rb wr = 0 := by
  unfold itM; rw [h.rdr.2.2.1, h.rdr.2.2.2.2.1]; simp [hE]

theorem seven_cells (w : World) (t : TypeId) : ∀ j (h : j < stray.length), (w.alloc (.cells #[.string ⟨#[]⟩, .string tElse, .string tThen, .string tLoop, .string tSemi, .string tColon, .string tVar] t)).cell? ⟨w.heap.size, j, none⟩ = some (.string stray[j]) := by
  intro j h
  have h7 : j < 7 := h
  match j, h7 with
  | 0, _ => simp [stray]
  | 1, _ => simp [stray]
  | 2, _ => simp [stray]
  | 3, _ => simp [stray]
  | 4, _ => simp [stray]
  | 5, _ => simp [stray]
  | 6, _ => simp [stray]

theorem Chg.trans_or {S : Nat → Prop} {w w1 w2 : World} (h : Chg S w w1) (h2 : Chg (fun k => S k ∨ w.heap.size ≤ k) w1 w2) : Chg S w w2 :=
  ⟨h2.os.trans h.os, h2.tape.trans h.tape, h2.output.trans h.output, Nat.le_trans h.size h2.size, fun k hk hn => (h2.block k (Nat.lt_of_lt_of_le hk h.size) (fun e => e.elim hn (by omega))).trans (h.block k hk hn)⟩

theorem ref_loop (n : Nat) (ih : ItemsSaid n) (rb sb : Nat) (tv sv : Value) (toks : List Tk) (ws : List RW) (c k : Int) (I f : Nat) (fin A loops : Int) (base : Nat) (v : Value) (acc : List AI) (xs : List (Array Value)) (F : Nat → Prop) (w : World)
    (hR : Rd w rb sb tv sv toks ws c k) (hb : Blk w rb (rdr sb tv I fin 0 A) 181) (hn : toks.length + 1 - (I + 1) ≤ n) (hf : toks.length + 1 - (I + 1) ≤ f) (hI : I < toks.length) (hl : 0 ≤ loops) (hl2 : loops + 1 + (toks.length + 1 - (I + 1) : Nat) ≤ 10000000)
    (hAt : ItemsAt sb sv ws c k w base v acc xs F) (hrb : rb < base) (hbs : base ≤ w.heap.size) (hal : acc.length ≤ 1100000) :
    Calls Tryz.prog 169 #[.pointer (some ⟨rb, 0, none⟩), v, .int .i64 loops] w (LoopPost rb sb tv sv ws c k fin A base v acc w (pLp ws toks fin f loops acc I)) := by
  cases h2 : lastTwo acc with
  | none => exact ref_loop_bad rb sb tv sv toks ws c k I f fin A loops base v acc xs F w hR hb hI hAt hal h2
  | some q =>
    obtain ⟨a, b⟩ := q
    by_cases hab : 1000 < a - b
    · exact ref_loop_big rb sb tv sv toks ws c k I f fin A loops base v acc xs F w hR hb hI hAt hal a b h2 hab
    · exact ref_loop_go n ih rb sb tv sv toks ws c k I f fin A loops base v acc xs F w hR hb hn hf hI hl hl2 hAt hrb hbs hal a b h2 hab

theorem pBr_ok {ws : List RW} {toks : List Tk} {fin : Int} (hw : ∀ x ∈ ws, x.inf.Wt 1 ∧ ∃ a n c, x.items = .slice a n c) {f : Nat} {loops : Int} {I : Nat} {x : AI} {I' : Nat} (h : pBr ws toks fin f loops I = .inl (x, I')) : I < I' ∧ I' ≤ toks.length := by
  unfold pBr at h
  cases hA : pItems ws toks fin f [tElse, tThen] loops [] I with
  | inr r => rw [hA] at h; cases h
  | inl q =>
    obtain ⟨la, ta, I1⟩ := q
    rw [hA] at h
    obtain ⟨a1, a2, _, _⟩ := pItems_ok ws toks fin hw _ _ _ _ _ _ _ _ hA ends1 (WtL.nil 0)
    simp only at h
    split at h
    · cases hB : pItems ws toks fin f [tThen] loops [] I1 with
      | inr r => rw [hB] at h; cases h
      | inl q2 =>
        obtain ⟨lb, tb, I2⟩ := q2
        rw [hB] at h
        obtain ⟨b1, b2, _, _⟩ := pItems_ok ws toks fin hw _ _ _ _ _ _ _ _ hB ends2 (WtL.nil 0)
        simp only at h
        split at h
        · cases h; exact ⟨by omega, b2⟩
        · cases h
    · split at h
      · cases h; exact ⟨a1, a2⟩
      · cases h
theorem pLp_ok {ws : List RW} {toks : List Tk} {fin : Int} (hw : ∀ x ∈ ws, x.inf.Wt 1 ∧ ∃ a n c, x.items = .slice a n c) {f : Nat} {loops : Int} {acc : List AI} {I : Nat} {x : AI} {I' : Nat} (h : pLp ws toks fin f loops acc I = .inl (x, I')) : I < I' ∧ I' ≤ toks.length := by
  unfold pLp at h
  cases h2 : lastTwo acc with
  | none => rw [h2] at h; cases h
  | some q =>
    obtain ⟨a, b⟩ := q
    rw [h2] at h
    simp only at h
    split at h
    · cases h
    · cases hA : pItems ws toks fin f [tLoop] (loops + 1) [] (I + 1) with
      | inr r => rw [hA] at h; cases h
      | inl q =>
        obtain ⟨la, ta, I1⟩ := q
        rw [hA] at h
        obtain ⟨a1, a2, _, _⟩ := pItems_ok ws toks fin hw _ _ _ _ _ _ _ _ hA ends3 (WtL.nil 0)
        simp only at h
        split at h
        · cases h; exact ⟨by omega, a2⟩
        · cases h

/-- How it goes on behind an if or a do. -/
def goOn (ws : List RW) (toks : List Tk) (fin : Int) (f : Nat) (ends : List ByteArray) (loops : Int) (acc : List AI) (pp : (AI × Nat) ⊕ (Int × Int)) : PR :=
  match pp with
  | .inr r => .inr r
  | .inl (x, I') => pItems ws toks fin f ends loops (acc ++ [x]) I'

set_option maxHeartbeats 8000000 in
set_option maxRecDepth 100000 in
theorem items_step (n : Nat) (ih : ItemsSaid n) : ItemsSaid (n + 1) := by
  intro rb sb tv sv toks ws c k I f fin A loops ends eb ecap w hR hb hn hf hI hl hl2 hends hecap hebr hcells
  obtain ⟨R, hr⟩ : ∃ R, R = pItems ws toks fin f ends loops [] I := ⟨_, rfl⟩
  rw [← hr]
  obtain ⟨i0, hi, hz0, hz1, hz2⟩ := info_parts Tryz.infoIt
  have hlt := hb.lt
  have hfew := hR.few
  have hebl : ∀ j, j < ends.length → eb < w.heap.size := fun j hj => World.block_lt_of_cell? w _ (hcells j hj)
  have INV0 : Hid (ItInv rb sb tv sv toks ws c k I fin A loops ends w R (.slice none 0 0) w) := Or.inl ⟨I, f, [], [], fun _ => False, Nat.le_refl _, hI, hf, by simp, hr, hb, Chg.refl _ w, ItemsAt.nil _ _ _ _ _ _ _⟩
  have HR := hidden hR; have IH := hidden ih; have HCELLS := hidden hcells; have HEBL := hidden hebl; have HN := hidden hn; have HL2 := hidden hl2; have HEC := hidden hecap
  have hl3 : loops ≤ 10000000 := by omega
  clear hr hR hb ih hcells hebl hn hf hI hl2 hecap
  go_enter Tryz.func129, Tryz.ntmps129
  go_wp2_with fail
  go_loopw [8] (fun v8 wr => Hid (ItInv rb sb tv sv toks ws c k I fin A loops ends w R v8 wr)) (fun _ wr => itM toks.length rb wr)
  case atStart => exact INV0
  case round =>
    clear INV0
    rcases hrel.out with ⟨J, f', acc, xs, F, hIJ, hJ, hf', hacc, hr, hB, hC, hAt⟩ | ⟨E, P, J, ad, m, cap, hE, rfl, hr, hB, hC⟩
    · clear hrel
      obtain ⟨f'', rfl⟩ : ∃ f'', f' = f'' + 1 := ⟨f' - 1, by omega⟩
      obtain ⟨ad, cap, rfl, hcap, hcapm⟩ := row_shape hAt.row
      have hM := itM_on (n := toks.length) hB
      obtain ⟨t, ht⟩ : ∃ t, t = tokS toks J := ⟨_, rfl⟩
      have hsz : t.size ≤ 1000000000 := by rw [ht]; exact HR.out.tsz J
      have hRw := HR.out.chg hC
      have HNX := hidden (ref_next rb sb tv toks J fin 0 A wr (by omega) (by omega) hB hRw.tok)
      rw [← ht] at HNX
      obtain ⟨r0, r1, r2, r3, r4, r5⟩ := hB.rdr
      have hws := hC.size
      have HT := hidden ht; have HB := hidden hB; have HC := hidden hC; have HAT := hidden hAt; have HRR := hidden hr; have HM := hidden hM; have HSZ := hidden hsz; have HF := hidden hf'; have HACC := hidden hacc; have HJ := hidden hJ; have HIJ := hidden hIJ
      have j1 : (J : Int) ≤ 1100000 := by omega
      have j0 : (0 : Int) ≤ (J : Int) := by omega
      clear ht hB hC hAt hr hM hsz hf' hacc hJ hIJ hRw
      go_wp2_with fail
      refine HNX.out.mono ?_
      rintro e w1 ⟨rfl, hbel1⟩
      have hC1 : Chg (fun b => b = rb) w w1 := HC.out.trans (Chg.ofBelow hbel1)
      have hB1 : Blk w1 rb (rdr sb tv J fin 0 A) 181 := (hbel1.block _ HB.out.lt).trans HB.out
      have hAt1 := HAT.out.move2 (Chg.ofBelow (S := fun _ => False) hbel1) (fun _ _ => id)
      have hs1 := hbel1.size
      clear r0 r1 r2 r3 r4 r5 HNX
      obtain ⟨r0, r1, r2, r3, r4, r5⟩ := hB1.rdr
      have fr2 := hB1.frozen 2
      have HAM := hidden (ref_among t ends eb ecap w1 (by omega) (fun j hj => (hC1.cell (p := ⟨eb, j, none⟩) (HEBL.out j hj) hebr).trans (HCELLS.out j hj)))
      obtain ⟨bi, hbi⟩ : ∃ bi, bi = inL t ends := ⟨_, rfl⟩
      rw [← hbi] at HAM
      have HBI := hidden hbi; have HB1 := hidden hB1; have HC1 := hidden hC1; have HAT1 := hidden hAt1
      clear hbi hB1 hC1 hAt1 hbel1 HB HC HAT
      go_wp2_with fail
      refine HAM.out.mono ?_
      rintro e w2 ⟨rfl, rfl⟩
      clear HAM
      cases bi with
      | true =>
        have hfin : Hid (R = .inl (acc, t, J + 1)) := by
          show R = _
          rw [HRR.out, HT.out]; exact p_end (by rw [← HT.out]; exact HBI.out.symm)
        go_wp2_with fail
        rw [hfin.out]
        refine bodyPost_ret (v := .tuple #[.slice ad acc.length cap, .string t]) (by simp [results, Tryz.results129, go_sem]) rfl ?_
        have hcc : Chg (fun b => b = rb) w2 (w2.setCell ⟨rb, 2, none⟩ (.int .i64 ((J : Int) + 1))) := (Chg.refl (fun b => b = rb) w2).setCell (p := ⟨rb, 2, none⟩) rfl _
        refine ⟨_, xs, F, rfl, ?_, HC1.out.trans hcc, HAT1.out.move hcc (fun k hk e => by omega)⟩
        have := HB1.out.set (o := 2) (.int .i64 ((J : Int) + 1))
        simpa [rdr] using this
      | false =>
        have HNUM := hidden (ref_number t w2 HSZ.out)
        obtain ⟨nn, bn, hnn⟩ : ∃ a b, numS t = (a, b) := ⟨_, _, rfl⟩
        rw [hnn] at HNUM
        obtain ⟨V, hV⟩ : ∃ V : World, V = w2.alloc (.cells #[.string ⟨#[]⟩, .string tElse, .string tThen, .string tLoop, .string tSemi, .string tColon, .string tVar] 9) := ⟨_, rfl⟩
        have HST := hidden (ref_among t stray w2.heap.size 7 V (by decide) (by rw [hV]; exact seven_cells w2 9))
        have hCV : Chg (fun b => b = rb) w V := by rw [hV]; exact HC1.out.alloc _
        have hBV : Blk V rb (rdr sb tv J fin 0 A) 181 := by rw [hV]; exact HB1.out.alloc _
        have hAtV : ItemsAt sb sv ws c k V w.heap.size (.slice ad acc.length cap) acc xs F := by rw [hV]; exact HAT1.out.move2 ((Chg.refl (fun _ => False) w2).alloc _) (fun _ _ => id)
        obtain ⟨bs, hbs⟩ : ∃ bs, bs = inL t stray := ⟨_, rfl⟩
        rw [← hbs] at HST
        have HNN := hidden hnn; have HBS := hidden hbs; have HCV := hidden hCV; have HBV := hidden hBV; have HATV := hidden hAtV; have HV := hidden hV
        clear hnn hbs hCV hBV hAtV hV
        go_wp2_with fail
        refine HNUM.out.mono ?_
        rintro e w3 ⟨rfl, rfl⟩
        clear HNUM
        go_wp2_with fail
        have hV' := HV.out
        rw [show Obj.cells #[Value.string ⟨#[]⟩, .string tElse, .string tThen, .string tLoop, .string tSemi, .string tColon, .string tVar] 9 = Obj.cells #[Value.string ⟨#[]⟩, .string ⟨#[101, 108, 115, 101]⟩, .string ⟨#[116, 104, 101, 110]⟩, .string ⟨#[108, 111, 111, 112]⟩, .string ⟨#[59]⟩, .string ⟨#[58]⟩, .string ⟨#[118, 97, 114, 105, 97, 98, 108, 101]⟩] 9 from rfl] at hV'
        rw [← hV']
        clear hV'
        refine HST.out.mono ?_
        rintro e w4 ⟨rfl, rfl⟩
        clear HST r0 r1 r2 r3 r4 r5 fr2
        obtain ⟨r0, r1, r2, r3, r4, r5⟩ := HBV.out.rdr
        have fr2 := HBV.out.frozen 2
        have he0 : Hid (inL (tokS toks J) ends = false) := by show _ = _; rw [← HT.out]; exact HBI.out.symm
        cases bs with
        | true =>
          have hfin : Hid (R = .inr (5, plc toks fin J)) := by
            show R = _
            rw [HRR.out]; exact p_stray he0.out (by rw [← HT.out]; exact HBS.out.symm)
          have hRd := HR.out.chg HCV.out
          have HX := hidden (ref_fails rb sb tv toks J J fin A 5 w4 (by omega) (by omega) HBV.out hRd.tok hRd.tr)
          clear hRd
          go_wp2_with fail
          refine HX.out.mono ?_
          rintro e w5 ⟨rfl, hb5, hc5⟩
          have H1 := hidden hb5; have H2 := hidden (HCV.out.trans hc5)
          clear HX hb5 hc5
          go_wp2_with fail
          go_roundw
          case rel => exact Or.inr ⟨5, _, J, ad, acc.length, cap, by decide, rfl, hfin.out, H1.out, H2.out⟩
          case measure => rw [itM_off H1.out (by decide), HM.out]; have := HJ.out; omega
        | false =>
          have hs0 : Hid (inL (tokS toks J) stray = false) := by show _ = _; rw [← HT.out]; exact HBS.out.symm
          have hJl : J < toks.length := stray_end HJ.out hs0.out
          have hHN : toks.length + 1 - (J + 1) ≤ n := by have := HN.out; have := HIJ.out; omega
          have hHF : toks.length + 1 - (J + 1) ≤ f'' := by have := HF.out; omega
          have HHN := hidden hHN; have HHF := hidden hHF
          clear hHN hHF
          cases bn with
          | true =>
            have hfin : Hid (R = pItems ws toks fin f'' ends loops (acc ++ [⟨some nn, Inf.plain 0 1⟩]) (J + 1)) := by
              show R = _
              have e := HNN.out
              rw [HRR.out, p_num he0.out hs0.out (by rw [← HT.out, e]), ← HT.out, e]
            have hnbd : -2147483648 ≤ nn ∧ nn ≤ 2147483647 := by
              have := num_bd t (by rw [HNN.out]); rw [HNN.out] at this; exact this
            have HCW := hidden HCV.out; have HBW := hidden HBV.out; have HATW := hidden HATV.out
            have HROW := hidden (HATW.out.move2 ((Chg.refl (fun _ => False) w4).alloc (.cells (numC nn) 249 (0, 0))) (fun _ _ => id))
            have HNEW := hidden (newsA w4 (numC nn) 249)
            have HONE := hidden (five_one (x := (numC nn)) ⟨1, nn, ⟨#[]⟩, none, 0, 0, none, 0, 0, rfl⟩)
            have H63 := hidden (show acc.length + 1 ≤ maxLen by have := HACC.out; have := HJ.out; unfold maxLen; omega)
            have H64 := hidden (show (acc.length + 1) * 80 ≤ 140737488355328 by have := HACC.out; have := HJ.out; omega)
            have HBASE := hidden (show w.heap.size ≤ (w4.alloc (.cells (numC nn) 249 (0, 0))).heap.size by have := HCW.out.size; simp; omega)
            have HHH := hidden (show (w4.alloc (.cells (numC nn) 249 (0, 0))).heap.size = w4.heap.size + 1 by simp)
            go_wp2_with (at_builtin; refine wpList_append_lies _ rfl _ _ 184 rfl w.heap.size 249 i0 (.agg item0) 5 80 Tryz.underlying184 hi hz0 hz1 hz2 rfl (by decide) _ acc.length (xs.flatMap Array.toList) rfl HROW.out.row ⟨w4.heap.size, 0, none⟩ 1 1 ((numC nn)).toList rfl rfl HNEW.out HONE.out (by decide) H63.out H64.out HBASE.out (w4.heap.size + 1) HHH.out ?_)
            intro g2 cap3 w6 hown hgrow hat hlt6
            have hrb6 : (w4.alloc (.cells (numC nn) 249 (0, 0))).grownBy w6 (Value.slice ad acc.length cap).ownBlock := hgrow
            have HOWN := hidden hown; have HGROW := hidden hgrow; have HATT := hidden hat
            have hnr : ∀ k, (Value.slice ad acc.length cap).ownBlock = some k → w.heap.size ≤ k := fun k hk => own_base HATW.out.row hk
            have hC6 : Chg (fun b => b = rb) w w6 := (HCW.out.alloc _).trans_or ((Chg.ofGrown hgrow).mono (fun k _ e => Or.inr (hnr k e.symm)))
            have hB6 := (HBW.out.alloc (.cells (numC nn) 249 (0, 0))).chg (Chg.ofGrown hgrow) (fun e => by have := hnr rb e.symm; omega)
            have hat6 : (Value.slice (some ⟨g2, 0, none⟩) (acc.length + 1) cap3).ownBlock = (Value.slice ad acc.length cap).ownBlock ∨ (Value.slice (some ⟨g2, 0, none⟩) (acc.length + 1) cap3).ownBlock = some (w4.alloc (.cells (numC nn) 249 (0, 0))).heap.size := by
              rcases hat with h | h
              · exact Or.inl h.symm
              · exact Or.inr (by rw [h, HHH.out]; rfl)
            have HC6 := hidden hC6; have HB6 := hidden hB6; have HAT6 := hidden hat6
            clear hown hgrow hat hrb6 hnr hC6 hB6 hat6
            clear r0 r1 r2 r3 r4 r5 fr2
            obtain ⟨r0, r1, r2, r3, r4, r5⟩ := HB6.out.rdr
            have fr2 := HB6.out.frozen 2
            go_wp2_with fail
            have hb7 : Blk (w6.setCell ⟨rb, 2, none⟩ (.int .i64 ((J : Int) + 1))) rb (rdr sb tv ((J + 1 : Nat) : Int) fin 0 A) 181 := by
              have := HB6.out.set (o := 2) (.int .i64 ((J : Int) + 1)); simpa [rdr] using this
            have hc7 : Chg (fun b => b = rb) w6 (w6.setCell ⟨rb, 2, none⟩ (.int .i64 ((J : Int) + 1))) := (Chg.refl (fun b => b = rb) w6).setCell (p := ⟨rb, 2, none⟩) rfl _
            have HB7 := hidden hb7; have HC7 := hidden hc7
            clear hb7 hc7
            go_roundw
            case rel =>
              refine Or.inl ⟨J + 1, f'', acc ++ [⟨some nn, Inf.plain 0 1⟩], xs ++ [numC nn], fun k => F k ∨ False, by have := HIJ.out; omega, by omega, HHF.out, by have := HACC.out; have := HIJ.out; simp; omega, hfin.out, HB7.out, HC6.out.trans HC7.out, ?_⟩
              refine ItemsAt.move (HROW.out.snoc (G := fun _ => False) ⟨1, nn, ⟨#[]⟩, none, 0, 0, none, 0, 0, rfl⟩ ⟨rfl, hnbd⟩ (fun _ h => h.elim) (num_item sb sv ws c k _ nn) HOWN.out HGROW.out HAT6.out) HC7.out (fun k hk e => by omega)
            case measure => rw [itM_on HB7.out, HM.out]; omega
          | false =>
            have hn0 : Hid ((numS (tokS toks J)).2 = false) := by show _ = _; rw [← HT.out, HNN.out]
            obtain ⟨b1, hb1⟩ : ∃ b1, b1 = (t.toList == [105, 102]) := ⟨_, rfl⟩
            cases b1 with
            | true =>
              have hif : Hid (((tokS toks J).toList == [105, 102]) = true) := by show _ = _; rw [← HT.out]; exact hb1.symm
              have hb1' := hb1.symm
              obtain ⟨X, hX⟩ : ∃ X : World, X = w4.setCell ⟨rb, 2, none⟩ (.int .i64 ((J : Int) + 1)) := ⟨_, rfl⟩
              have hbX : Blk X rb (rdr sb tv ((J + 1 : Nat) : Int) fin 0 A) 181 := by
                rw [hX]; have := HBV.out.set (o := 2) (.int .i64 ((J : Int) + 1)); simpa [rdr] using this
              have hcX : Chg (fun b => b = rb) w4 X := by rw [hX]; exact (Chg.refl (fun b => b = rb) w4).setCell (p := ⟨rb, 2, none⟩) rfl _
              have hCX : Chg (fun b => b = rb) w X := HCV.out.trans hcX
              have hAtX := HATV.out.move hcX (fun k hk e => by omega)
              have HBR := hidden (ref_branch n IH.out rb sb tv sv toks ws c k (J + 1) f'' fin A loops X (HR.out.chg hCX) hbX HHN.out HHF.out hJl hl (by have := HL2.out; have := HIJ.out; omega))
              obtain ⟨pp, hpp⟩ : ∃ pp, pp = pBr ws toks fin f'' loops (J + 1) := ⟨_, rfl⟩
              rw [← hpp] at HBR
              have hfin : Hid (R = goOn ws toks fin f'' ends loops acc pp) := by
                show R = _
                rw [HRR.out, p_if he0.out hs0.out hn0.out hif.out, hpp]; rfl
              have HPP := hidden hpp; have HCX := hidden hCX; have HATX := hidden hAtX; have HBX := hidden hbX
              clear hpp hCX hAtX hbX hcX hb1
              go_upto_region 21 with fail
              rw [← hX]
              clear hX r0 r1 r2 r3 r4 r5 fr2
              go_wp2_with fail
              refine HBR.out.mono ?_
              clear HBR
              intro e w5 hP
              rcases pp with ⟨x, I'⟩ | ⟨E, P⟩
              · obtain ⟨x0, G, rfl, hfive, hkind, hB5, hC5, hG, hok⟩ := hP
                have hI' : J + 1 < I' ∧ I' ≤ toks.length := pBr_ok HR.out.wok HPP.out.symm
                obtain ⟨kk, kn, ks, a1, n1, c1, a2, n2, c2, rfl⟩ := hfive
                have HCW : Hid (Chg (fun b => b = rb) w (w5.alloc (.cells #[.int .i64 kk, .int .i64 kn, .string ks, .slice a1 n1 c1, .slice a2 n2 c2] 249 (0, 0)))) := (HCX.out.trans hC5).alloc _
                have HBW : Hid (Blk (w5.alloc (.cells #[.int .i64 kk, .int .i64 kn, .string ks, .slice a1 n1 c1, .slice a2 n2 c2] 249 (0, 0))) rb (rdr sb tv I' fin 0 A) 181) := hB5.alloc _
                have HATW := hidden ((HATX.out.move hC5 (fun k hk e => by omega)).move2 ((Chg.refl (fun _ => False) w5).alloc (.cells #[.int .i64 kk, .int .i64 kn, .string ks, .slice a1 n1 c1, .slice a2 n2 c2] 249 (0, 0))) (fun _ _ => id))
                obtain ⟨Y, hY⟩ : ∃ Y : World, Y = w5.alloc (.cells #[.int .i64 kk, .int .i64 kn, .string ks, .slice a1 n1 c1, .slice a2 n2 c2] 249 (0, 0)) := ⟨_, rfl⟩
                have hbY : Blk Y w5.heap.size #[.int .i64 kk, .int .i64 kn, .string ks, .slice a1 n1 c1, .slice a2 n2 c2] 249 := by rw [hY]; exact blk_new _ _ _
                have HOK : Hid (ItemOk sb sv ws c k G Y #[.int .i64 kk, .int .i64 kn, .string ks, .slice a1 n1 c1, .slice a2 n2 c2] x.inf) := by
                  rw [hY]; exact hok.mono (fun _ => id) (fun k hk => Below.heap_alloc w5 _ k (hG k hk).2)
                have HGG : Hid (∀ k, G k → w.heap.size ≤ k ∧ k < Y.heap.size ∧ (Value.slice ad acc.length cap).ownBlock ≠ some k) := fun k hk => by
                  have h1 := hG k hk
                  have h2 := HCX.out.size
                  refine ⟨by omega, by rw [hY]; simp; omega, fun e => ?_⟩
                  have := own_lt HATX.out.row e
                  omega
                rw [← hY] at HCW HBW HATW
                have HKI := hidden hkind; have HI' := hidden hI'; have HBY := hidden hbY
                clear hkind hI' hB5 hC5 hG hok hbY
                go_upto_region 22 with fail
                rw [← hY]
                clear hY
                have z0 := HBY.out.cell 0 _ rfl; have z1 := HBY.out.cell 1 _ rfl; have z2 := HBY.out.cell 2 _ rfl; have z3 := HBY.out.cell 3 _ rfl; have z4 := HBY.out.cell 4 _ rfl
                simp only [List.getElem_toArray, List.getElem_cons_succ, List.getElem_cons_zero] at z0 z1 z2 z3 z4
                have HROW := hidden (HATW.out.move2 ((Chg.refl (fun _ => False) Y).alloc (.cells #[.int .i64 kk, .int .i64 kn, .string ks, .slice a1 n1 c1, .slice a2 n2 c2] 249 (0, 0))) (fun _ _ => id))
                have HNEW := hidden (newsA Y #[.int .i64 kk, .int .i64 kn, .string ks, .slice a1 n1 c1, .slice a2 n2 c2] 249)
                have HONE := hidden (five_one (x := #[.int .i64 kk, .int .i64 kn, .string ks, .slice a1 n1 c1, .slice a2 n2 c2]) ⟨kk, kn, ks, a1, n1, c1, a2, n2, c2, rfl⟩)
                have H63 := hidden (show acc.length + 1 ≤ maxLen by have := HACC.out; have := HJ.out; unfold maxLen; omega)
                have H64 := hidden (show (acc.length + 1) * 80 ≤ 140737488355328 by have := HACC.out; have := HJ.out; omega)
                have HBASE := hidden (show w.heap.size ≤ (Y.alloc (.cells #[.int .i64 kk, .int .i64 kn, .string ks, .slice a1 n1 c1, .slice a2 n2 c2] 249 (0, 0))).heap.size by have := HCW.out.size; simp; omega)
                have HHH := hidden (show (Y.alloc (.cells #[.int .i64 kk, .int .i64 kn, .string ks, .slice a1 n1 c1, .slice a2 n2 c2] 249 (0, 0))).heap.size = Y.heap.size + 1 by simp)
                go_wp2_with (at_builtin; refine wpList_append_lies _ rfl _ _ 184 rfl w.heap.size 249 i0 (.agg item0) 5 80 Tryz.underlying184 hi hz0 hz1 hz2 rfl (by decide) _ acc.length (xs.flatMap Array.toList) rfl HROW.out.row ⟨Y.heap.size, 0, none⟩ 1 1 (#[.int .i64 kk, .int .i64 kn, .string ks, .slice a1 n1 c1, .slice a2 n2 c2]).toList rfl rfl HNEW.out HONE.out (by decide) H63.out H64.out HBASE.out (Y.heap.size + 1) HHH.out ?_)
                intro g2 cap3 w6 hown hgrow hat hlt6
                have hrb6 : (Y.alloc (.cells #[.int .i64 kk, .int .i64 kn, .string ks, .slice a1 n1 c1, .slice a2 n2 c2] 249 (0, 0))).grownBy w6 (Value.slice ad acc.length cap).ownBlock := hgrow
                have HOWN := hidden hown; have HGROW := hidden hgrow; have HATT := hidden hat
                have hnr : ∀ k, (Value.slice ad acc.length cap).ownBlock = some k → w.heap.size ≤ k := fun k hk => own_base HATW.out.row hk
                have hC6 : Chg (fun b => b = rb) w w6 := (HCW.out.alloc _).trans_or ((Chg.ofGrown hgrow).mono (fun k _ e => Or.inr (hnr k e.symm)))
                have hB6 := (HBW.out.alloc (.cells #[.int .i64 kk, .int .i64 kn, .string ks, .slice a1 n1 c1, .slice a2 n2 c2] 249 (0, 0))).chg (Chg.ofGrown hgrow) (fun e => by have := hnr rb e.symm; omega)
                have hat6 : (Value.slice (some ⟨g2, 0, none⟩) (acc.length + 1) cap3).ownBlock = (Value.slice ad acc.length cap).ownBlock ∨ (Value.slice (some ⟨g2, 0, none⟩) (acc.length + 1) cap3).ownBlock = some (Y.alloc (.cells #[.int .i64 kk, .int .i64 kn, .string ks, .slice a1 n1 c1, .slice a2 n2 c2] 249 (0, 0))).heap.size := by
                  rcases hat with h | h
                  · exact Or.inl h.symm
                  · exact Or.inr (by rw [h, HHH.out]; rfl)
                have HC6 := hidden hC6; have HB6 := hidden hB6; have HAT6 := hidden hat6
                clear hown hgrow hat hrb6 hnr hC6 hB6 hat6
                clear z0 z1 z2 z3 z4
                go_wp2_with fail
                go_roundw
                case rel =>
                  refine Or.inl ⟨I', f'', acc ++ [x], xs ++ [#[.int .i64 kk, .int .i64 kn, .string ks, .slice a1 n1 c1, .slice a2 n2 c2]], fun k => F k ∨ G k, by have := HIJ.out; have := HI'.out; omega, HI'.out.2, by have := HHF.out; have := HI'.out; omega, by have := HACC.out; have := HIJ.out; have := HI'.out; simp; omega, hfin.out, HB6.out, HC6.out, ?_⟩
                  exact HROW.out.snoc (G := G) ⟨kk, kn, ks, a1, n1, c1, a2, n2, c2, rfl⟩ HKI.out (fun k hk => by have := HGG.out k hk; exact ⟨this.1, by simp; omega, this.2.2⟩) (HOK.out.mono (fun _ => id) (fun k hk => Below.heap_alloc Y _ k (HGG.out k hk).2.1)) HOWN.out HGROW.out HAT6.out
                case measure => rw [itM_on HB6.out, HM.out]; have := HI'.out; omega
              · obtain ⟨x0, I', rfl, hfive, hE, hB5, hC5⟩ := hP
                obtain ⟨kk, kn, ks, a1, n1, c1, a2, n2, c2, rfl⟩ := hfive
                obtain ⟨Y, hY⟩ : ∃ Y : World, Y = w5.alloc (.cells #[.int .i64 kk, .int .i64 kn, .string ks, .slice a1 n1 c1, .slice a2 n2 c2] 249 (0, 0)) := ⟨_, rfl⟩
                have HCW : Hid (Chg (fun b => b = rb) w Y) := by rw [hY]; exact (HCX.out.trans hC5).alloc _
                have HBW : Hid (Blk Y rb (rdr sb tv I' fin E P) 181) := by rw [hY]; exact hB5.alloc _
                have HATW : Hid (ItemsAt sb sv ws c k Y w.heap.size (.slice ad acc.length cap) acc xs F) := by rw [hY]; exact ((HATX.out.move hC5 (fun k hk e => by omega)).move2 ((Chg.refl (fun _ => False) w5).alloc _) (fun _ _ => id))
                have hbY : Blk Y w5.heap.size #[.int .i64 kk, .int .i64 kn, .string ks, .slice a1 n1 c1, .slice a2 n2 c2] 249 := by rw [hY]; exact blk_new _ _ _
                have HE := hidden hE; have HBY := hidden hbY
                clear hB5 hC5 hbY hE
                go_upto_region 22 with fail
                rw [← hY]
                clear hY
                have z0 := HBY.out.cell 0 _ rfl; have z1 := HBY.out.cell 1 _ rfl; have z2 := HBY.out.cell 2 _ rfl; have z3 := HBY.out.cell 3 _ rfl; have z4 := HBY.out.cell 4 _ rfl
                simp only [List.getElem_toArray, List.getElem_cons_succ, List.getElem_cons_zero] at z0 z1 z2 z3 z4
                have HROW := hidden (HATW.out.move2 ((Chg.refl (fun _ => False) Y).alloc (.cells #[.int .i64 kk, .int .i64 kn, .string ks, .slice a1 n1 c1, .slice a2 n2 c2] 249 (0, 0))) (fun _ _ => id))
                have HNEW := hidden (newsA Y #[.int .i64 kk, .int .i64 kn, .string ks, .slice a1 n1 c1, .slice a2 n2 c2] 249)
                have HONE := hidden (five_one (x := #[.int .i64 kk, .int .i64 kn, .string ks, .slice a1 n1 c1, .slice a2 n2 c2]) ⟨kk, kn, ks, a1, n1, c1, a2, n2, c2, rfl⟩)
                have H63 := hidden (show acc.length + 1 ≤ maxLen by have := HACC.out; have := HJ.out; unfold maxLen; omega)
                have H64 := hidden (show (acc.length + 1) * 80 ≤ 140737488355328 by have := HACC.out; have := HJ.out; omega)
                have HBASE := hidden (show w.heap.size ≤ (Y.alloc (.cells #[.int .i64 kk, .int .i64 kn, .string ks, .slice a1 n1 c1, .slice a2 n2 c2] 249 (0, 0))).heap.size by have := HCW.out.size; simp; omega)
                have HHH := hidden (show (Y.alloc (.cells #[.int .i64 kk, .int .i64 kn, .string ks, .slice a1 n1 c1, .slice a2 n2 c2] 249 (0, 0))).heap.size = Y.heap.size + 1 by simp)
                go_wp2_with (at_builtin; refine wpList_append_lies _ rfl _ _ 184 rfl w.heap.size 249 i0 (.agg item0) 5 80 Tryz.underlying184 hi hz0 hz1 hz2 rfl (by decide) _ acc.length (xs.flatMap Array.toList) rfl HROW.out.row ⟨Y.heap.size, 0, none⟩ 1 1 (#[.int .i64 kk, .int .i64 kn, .string ks, .slice a1 n1 c1, .slice a2 n2 c2]).toList rfl rfl HNEW.out HONE.out (by decide) H63.out H64.out HBASE.out (Y.heap.size + 1) HHH.out ?_)
                intro g2 cap3 w6 hown hgrow hat hlt6
                have hrb6 : (Y.alloc (.cells #[.int .i64 kk, .int .i64 kn, .string ks, .slice a1 n1 c1, .slice a2 n2 c2] 249 (0, 0))).grownBy w6 (Value.slice ad acc.length cap).ownBlock := hgrow
                have HOWN := hidden hown; have HGROW := hidden hgrow; have HATT := hidden hat
                have hnr : ∀ k, (Value.slice ad acc.length cap).ownBlock = some k → w.heap.size ≤ k := fun k hk => own_base HATW.out.row hk
                have hC6 : Chg (fun b => b = rb) w w6 := (HCW.out.alloc _).trans_or ((Chg.ofGrown hgrow).mono (fun k _ e => Or.inr (hnr k e.symm)))
                have hB6 := (HBW.out.alloc (.cells #[.int .i64 kk, .int .i64 kn, .string ks, .slice a1 n1 c1, .slice a2 n2 c2] 249 (0, 0))).chg (Chg.ofGrown hgrow) (fun e => by have := hnr rb e.symm; omega)
                have hat6 : (Value.slice (some ⟨g2, 0, none⟩) (acc.length + 1) cap3).ownBlock = (Value.slice ad acc.length cap).ownBlock ∨ (Value.slice (some ⟨g2, 0, none⟩) (acc.length + 1) cap3).ownBlock = some (Y.alloc (.cells #[.int .i64 kk, .int .i64 kn, .string ks, .slice a1 n1 c1, .slice a2 n2 c2] 249 (0, 0))).heap.size := by
                  rcases hat with h | h
                  · exact Or.inl h.symm
                  · exact Or.inr (by rw [h, HHH.out]; rfl)
                have HC6 := hidden hC6; have HB6 := hidden hB6; have HAT6 := hidden hat6
                clear hown hgrow hat hrb6 hnr hC6 hB6 hat6
                clear z0 z1 z2 z3 z4
                go_wp2_with fail
                go_roundw
                case rel => exact Or.inr ⟨E, P, I', _, _, _, HE.out, rfl, hfin.out, HB6.out, HC6.out⟩
                case measure => rw [itM_off HB6.out HE.out, HM.out]; omega
            | false =>
              have hif : Hid (((tokS toks J).toList == [105, 102]) = false) := by show _ = _; rw [← HT.out]; exact hb1.symm
              have hb1' := hb1.symm
              clear hb1
              obtain ⟨b2, hb2⟩ : ∃ b2, b2 = (t.toList == [100, 111]) := ⟨_, rfl⟩
              cases b2 with
              | true =>
                have hdo : Hid (((tokS toks J).toList == [100, 111]) = true) := by show _ = _; rw [← HT.out]; exact hb2.symm
                have hb2' := hb2.symm
                clear hb2
                have HLP := hidden (ref_loop n IH.out rb sb tv sv toks ws c k J f'' fin A loops w.heap.size (.slice ad acc.length cap) acc xs F w4 (HR.out.chg HCV.out) HBV.out HHN.out HHF.out hJl hl (by have := HL2.out; have := HIJ.out; omega) HATV.out hlt HCV.out.size (by have := HACC.out; omega))
                obtain ⟨pp, hpp⟩ : ∃ pp, pp = pLp ws toks fin f'' loops acc J := ⟨_, rfl⟩
                rw [← hpp] at HLP
                have hfin : Hid (R = goOn ws toks fin f'' ends loops acc pp) := by
                  show R = _
                  rw [HRR.out, p_do he0.out hs0.out hn0.out hif.out hdo.out, hpp]; rfl
                have HPP := hidden hpp
                have hnr : ∀ k, (Value.slice ad acc.length cap).ownBlock = some k → w.heap.size ≤ k := fun k hk => own_base HATV.out.row hk
                have HNR := hidden hnr
                clear hpp hnr
                go_wp2_with fail
                refine HLP.out.mono ?_
                clear HLP
                intro e w5 hP
                rcases pp with ⟨x, I'⟩ | ⟨E, P⟩
                · obtain ⟨v', xs', F', rfl, hB5, hC5, hAt5⟩ := hP
                  have hI' : J < I' ∧ I' ≤ toks.length := pLp_ok HR.out.wok HPP.out.symm
                  have HC5 : Hid (Chg (fun b => b = rb) w w5) := HCV.out.trans_or (hC5.mono (fun k _ e => e.imp id (HNR.out k)))
                  have HB5 := hidden hB5; have HAT5 := hidden hAt5; have HI' := hidden hI'
                  clear hB5 hC5 hAt5 hI'
                  go_wp2_with fail
                  go_roundw
                  case rel => exact Or.inl ⟨I', f'', acc ++ [x], xs', F', by have := HIJ.out; have := HI'.out; omega, HI'.out.2, by have := HHF.out; have := HI'.out; omega, by have := HACC.out; have := HIJ.out; have := HI'.out; simp; omega, hfin.out, HB5.out, HC5.out, HAT5.out⟩
                  case measure => rw [itM_on HB5.out, HM.out]; have := HI'.out; omega
                · obtain ⟨ad', n', cap', I', rfl, hE, hB5, hC5⟩ := hP
                  have HC5 : Hid (Chg (fun b => b = rb) w w5) := HCV.out.trans_or (hC5.mono (fun k _ e => e.imp id (HNR.out k)))
                  have HB5 := hidden hB5; have HE := hidden hE
                  clear hB5 hC5 hE
                  go_wp2_with fail
                  go_roundw
                  case rel => exact Or.inr ⟨E, P, I', _, _, _, HE.out, rfl, hfin.out, HB5.out, HC5.out⟩
                  case measure => rw [itM_off HB5.out HE.out, HM.out]; omega
              | false =>
                have hdo : Hid (((tokS toks J).toList == [100, 111]) = false) := by show _ = _; rw [← HT.out]; exact hb2.symm
                have hb2' := hb2.symm
                clear hb2
                have hfin : Hid (R = if wordE ws t loops = 0 then pItems ws toks fin f'' ends loops (acc ++ [⟨none, wordI ws t⟩]) (J + 1) else .inr (wordE ws t loops, plc toks fin J)) := by
                  show R = _
                  rw [HRR.out, p_word he0.out hs0.out hn0.out hif.out hdo.out, HT.out]
                by_cases hw0 : wordE ws t loops = 0
                · have hRd := HR.out.chg HCV.out
                  have HWO := hidden (ref_word_ok rb sb tv toks J fin A loops sv ws c k t w4 HR.out.wfew HBV.out hRd.sys hw0)
                  have hfin2 : Hid (R = pItems ws toks fin f'' ends loops (acc ++ [⟨none, wordI ws t⟩]) (J + 1)) := by show R = _; rw [hfin.out, if_pos hw0]
                  obtain ⟨kk, kn, ks, hwv, hk1⟩ := wordV_five ws t
                  have HWI := hidden (fun W : World => word_item (sb := sb) (sv := sv) (c := c) (k := k) (w := W) HR.out.wfew HR.out.wok t)
                  rw [hwv] at HWO HWI
                  have HK1 := hidden hk1
                  clear hfin hw0 hRd hwv hk1
                  go_wp2_with fail
                  refine HWO.out.mono ?_
                  rintro e w5 ⟨rfl, hbel5⟩
                  obtain ⟨Y, hY⟩ : ∃ Y : World, Y = w5.alloc (.cells #[.int .i64 kk, .int .i64 kn, .string ks, .slice none 0 0, .slice none 0 0] 249 (0, 0)) := ⟨_, rfl⟩
                  have HCW : Hid (Chg (fun b => b = rb) w Y) := by rw [hY]; exact (HCV.out.trans (Chg.ofBelow hbel5)).alloc _
                  have HBW : Hid (Blk Y rb (rdr sb tv J fin 0 A) 181) := by rw [hY]; exact Blk.alloc ((hbel5.block _ HBV.out.lt).trans HBV.out) _
                  have HATW : Hid (ItemsAt sb sv ws c k Y w.heap.size (.slice ad acc.length cap) acc xs F) := by rw [hY]; exact ((HATV.out.move2 (Chg.ofBelow (S := fun _ => False) hbel5) (fun _ _ => id)).move2 ((Chg.refl (fun _ => False) w5).alloc _) (fun _ _ => id))
                  have hbY : Blk Y w5.heap.size #[.int .i64 kk, .int .i64 kn, .string ks, .slice none 0 0, .slice none 0 0] 249 := by rw [hY]; exact blk_new _ _ _
                  have HBY := hidden hbY
                  clear hbel5 hbY HWO r0 r1 r2 r3 r4 r5 fr2
                  go_upto_region 11 with fail
                  rw [← hY]
                  clear hY
                  have z0 := HBY.out.cell 0 _ rfl; have z1 := HBY.out.cell 1 _ rfl; have z2 := HBY.out.cell 2 _ rfl; have z3 := HBY.out.cell 3 _ rfl; have z4 := HBY.out.cell 4 _ rfl
                  simp only [List.getElem_toArray, List.getElem_cons_succ, List.getElem_cons_zero] at z0 z1 z2 z3 z4
                  have HROW := hidden (HATW.out.move2 ((Chg.refl (fun _ => False) Y).alloc (.cells #[.int .i64 kk, .int .i64 kn, .string ks, .slice none 0 0, .slice none 0 0] 249 (0, 0))) (fun _ _ => id))
                  have HNEW := hidden (newsA Y #[.int .i64 kk, .int .i64 kn, .string ks, .slice none 0 0, .slice none 0 0] 249)
                  have HONE := hidden (five_one (x := #[.int .i64 kk, .int .i64 kn, .string ks, .slice none 0 0, .slice none 0 0]) ⟨kk, kn, ks, none, 0, 0, none, 0, 0, rfl⟩)
                  have H63 := hidden (show acc.length + 1 ≤ maxLen by have := HACC.out; have := HJ.out; unfold maxLen; omega)
                  have H64 := hidden (show (acc.length + 1) * 80 ≤ 140737488355328 by have := HACC.out; have := HJ.out; omega)
                  have HBASE := hidden (show w.heap.size ≤ (Y.alloc (.cells #[.int .i64 kk, .int .i64 kn, .string ks, .slice none 0 0, .slice none 0 0] 249 (0, 0))).heap.size by have := HCW.out.size; simp; omega)
                  have HHH := hidden (show (Y.alloc (.cells #[.int .i64 kk, .int .i64 kn, .string ks, .slice none 0 0, .slice none 0 0] 249 (0, 0))).heap.size = Y.heap.size + 1 by simp)
                  go_wp2_with (at_builtin; refine wpList_append_lies _ rfl _ _ 184 rfl w.heap.size 249 i0 (.agg item0) 5 80 Tryz.underlying184 hi hz0 hz1 hz2 rfl (by decide) _ acc.length (xs.flatMap Array.toList) rfl HROW.out.row ⟨Y.heap.size, 0, none⟩ 1 1 (#[.int .i64 kk, .int .i64 kn, .string ks, .slice none 0 0, .slice none 0 0]).toList rfl rfl HNEW.out HONE.out (by decide) H63.out H64.out HBASE.out (Y.heap.size + 1) HHH.out ?_)
                  intro g2 cap3 w6 hown hgrow hat hlt6
                  have hrb6 : (Y.alloc (.cells #[.int .i64 kk, .int .i64 kn, .string ks, .slice none 0 0, .slice none 0 0] 249 (0, 0))).grownBy w6 (Value.slice ad acc.length cap).ownBlock := hgrow
                  have HOWN := hidden hown; have HGROW := hidden hgrow; have HATT := hidden hat
                  have hnr : ∀ k, (Value.slice ad acc.length cap).ownBlock = some k → w.heap.size ≤ k := fun k hk => own_base HATW.out.row hk
                  have hC6 : Chg (fun b => b = rb) w w6 := (HCW.out.alloc _).trans_or ((Chg.ofGrown hgrow).mono (fun k _ e => Or.inr (hnr k e.symm)))
                  have hB6 := (HBW.out.alloc (.cells #[.int .i64 kk, .int .i64 kn, .string ks, .slice none 0 0, .slice none 0 0] 249 (0, 0))).chg (Chg.ofGrown hgrow) (fun e => by have := hnr rb e.symm; omega)
                  have hat6 : (Value.slice (some ⟨g2, 0, none⟩) (acc.length + 1) cap3).ownBlock = (Value.slice ad acc.length cap).ownBlock ∨ (Value.slice (some ⟨g2, 0, none⟩) (acc.length + 1) cap3).ownBlock = some (Y.alloc (.cells #[.int .i64 kk, .int .i64 kn, .string ks, .slice none 0 0, .slice none 0 0] 249 (0, 0))).heap.size := by
                    rcases hat with h | h
                    · exact Or.inl h.symm
                    · exact Or.inr (by rw [h, HHH.out]; rfl)
                  have HC6 := hidden hC6; have HB6 := hidden hB6; have HAT6 := hidden hat6
                  clear hown hgrow hat hrb6 hnr hC6 hB6 hat6
                  clear z0 z1 z2 z3 z4
                  obtain ⟨r0, r1, r2, r3, r4, r5⟩ := HB6.out.rdr
                  have fr2 := HB6.out.frozen 2
                  go_wp2_with fail
                  have hb7 : Blk (w6.setCell ⟨rb, 2, none⟩ (.int .i64 ((J : Int) + 1))) rb (rdr sb tv ((J + 1 : Nat) : Int) fin 0 A) 181 := by
                    have := HB6.out.set (o := 2) (.int .i64 ((J : Int) + 1)); simpa [rdr] using this
                  have hc7 : Chg (fun b => b = rb) w6 (w6.setCell ⟨rb, 2, none⟩ (.int .i64 ((J : Int) + 1))) := (Chg.refl (fun b => b = rb) w6).setCell (p := ⟨rb, 2, none⟩) rfl _
                  have HB7 := hidden hb7; have HC7 := hidden hc7
                  clear hb7 hc7
                  go_roundw
                  case rel =>
                    refine Or.inl ⟨J + 1, f'', acc ++ [⟨none, wordI ws t⟩], xs ++ [#[.int .i64 kk, .int .i64 kn, .string ks, .slice none 0 0, .slice none 0 0]], fun k => F k ∨ False, by have := HIJ.out; omega, by omega, HHF.out, by have := HACC.out; have := HIJ.out; simp; omega, hfin2.out, HB7.out, HC6.out.trans HC7.out, ?_⟩
                    exact ItemsAt.move (HROW.out.snoc (G := fun _ => False) ⟨kk, kn, ks, none, 0, 0, none, 0, 0, rfl⟩ ⟨kk, rfl, HK1.out⟩ (fun _ h => h.elim) (HWI.out _) HOWN.out HGROW.out HAT6.out) HC7.out (fun k hk e => by omega)
                  case measure => rw [itM_on HB7.out, HM.out]; omega
                · have hRd := HR.out.chg HCV.out
                  have HWE := hidden (ref_word_err rb sb tv toks J fin A loops sv ws c k t w4 HR.out.wfew (by omega) (by omega) HBV.out hRd.tok hRd.tr hRd.sys hw0)
                  have hfin2 : Hid (R = .inr (wordE ws t loops, plc toks fin J)) := by show R = _; rw [hfin.out, if_neg hw0]
                  have HW0 := hidden hw0
                  simp only [item0] at HWE
                  clear hfin hw0 hRd
                  go_wp2_with fail
                  refine HWE.out.mono ?_
                  rintro e w5 ⟨rfl, hb5, hc5⟩
                  have HB5 := hidden hb5; have HC5 := hidden (HCV.out.trans hc5)
                  have hsz5 := hb5.lt
                  clear HWE hb5 hc5 r0 r1 r2 r3 r4 r5 fr2
                  go_wp2_with fail
                  go_roundw
                  case rel => exact Or.inr ⟨_, _, J, ad, acc.length, cap, HW0.out, rfl, hfin2.out, HB5.out.alloc _, HC5.out.alloc _⟩
                  case measure => rw [itM_off (HB5.out.alloc _) HW0.out, HM.out]; omega
    · have hM := itM_off (n := toks.length) hB hE
      have hEb : (E == 0) = false := by simpa using hE
      obtain ⟨r0, r1, r2, r3, r4, r5⟩ := hB.rdr
      have HB := hidden hB; have HC := hidden hC; have HE := hidden hE; have HRR := hidden hr
      clear hB hC hE hr hrel hM
      go_wp2_with fail
      rw [HRR.out]
      exact bodyPost_ret (v := .tuple #[.slice ad m cap, .string ⟨#[]⟩]) (by simp [results, Tryz.results129, go_sem]) rfl ⟨ad, m, cap, J, rfl, HE.out, HB.out, HC.out⟩

theorem items_said : ∀ n, ItemsSaid n
  | 0 => fun rb sb tv sv toks ws c k I f fin A loops ends eb ecap w hR hb hn hf hI => by omega
  | n + 1 => items_step n (items_said n)

end Go.Proofs.YtcphhbofjkenaaaGreatDoor
