/- The document's answer: Load. -/
import Derived.Test.YtcphhbofjkenaaaGreatDoorM38

namespace Go.Proofs.YtcphhbofjkenaaaGreatDoor
open Go Go.RowKit
set_option linter.unusedVariables false
set_option linter.unusedSimpArgs false

abbrev LR := (Int × Int) × List PE × Int × Int × List Int
abbrev WsOk (ws : List RW) : Prop := ∀ x ∈ ws, x.inf.Wt 1 ∧ ∃ a n c, x.items = .slice a n c

/-- What Load leaves of the document's system: what the program's does. -/
def DLoad (w : World) (sb : Nat) (sv : Value) (R : LR) (e : Ending) (w' : World) : Prop :=
  e = .returned (.tuple #[.int .i64 R.1.1, .int .i64 R.1.2]) ∧ (∃ sv' ws', RefSys w' sb sv' ws' R.2.2.1 R.2.2.2.1 ∧ Alike R.2.1 ws' ∧ WsOk ws' ∧ Lc w sv sv') ∧ Chg (fun b => b = sb ∨ sv.ownBlock = some b) w w'

def LdInv (rb sb : Nat) (tv sv : Value) (s : ByteArray) (toks : List Tk) (w : World) (R : LR) (wr : World) : Prop :=
  (∃ (I a f : Nat) (es : List PE) (nv nt : Int) (code : List Int) (ws : List RW) (sv' : Value), LD s toks R I a f es nv nt code ws ∧ Rd wr rb sb tv sv' toks ws nv nt ∧ Blk wr rb (rdr sb tv I s.size 0 0) 181 ∧ Lc w sv sv' ∧ Chg (fun b => b = sb ∨ sv.ownBlock = some b) w wr) ∨
  (∃ (E P : Int) (J : Nat) (es : List PE) (nv nt : Int) (code : List Int) (ws : List RW) (sv' : Value), E ≠ 0 ∧ R = ((E, P), es, nv, nt, code) ∧ Blk wr rb (rdr sb tv J s.size E P) 181 ∧ RefSys wr sb sv' ws nv nt ∧ Alike es ws ∧ WsOk ws ∧ Lc w sv sv' ∧ Chg (fun b => b = sb ∨ sv.ownBlock = some b) w wr)

theorem few_ws {es : List PE} {nv nt : Int} {code : List Int} {ws : List RW} (h : LInv es nv nt code) (hA : Alike es ws) : ws.length ≤ 1100000 := by have := h.l; have := hA.len; omega

/-- What turned while the document's system was read on. -/
theorem Chg.doc {w wr w2 : World} {rb sb : Nat} {sv sv' : Value} (h : Chg (fun b => b = sb ∨ sv.ownBlock = some b) w wr) (hl : Lc w sv sv') (hrb : w.heap.size ≤ rb) (h2 : Chg (fun b => b = rb ∨ b = sb ∨ sv'.ownBlock = some b) wr w2) : Chg (fun b => b = sb ∨ sv.ownBlock = some b) w w2 :=
  h.thru h2 (fun k hk e => e.elim (fun e => by omega) (fun e => e.imp id (fun e => (hl k e).elim id (fun e => by omega))))

set_option maxHeartbeats 8000000 in
set_option maxRecDepth 100000 in
theorem ref_load {es : List PE} {nv nt : Int} {code : List Int} {ws : List RW} (s : ByteArray) (sb : Nat) (sv : Value) (w : World) (hS : RefSys w sb sv ws nv nt) (hA : Alike es ws) (hL : LInv es nv nt code) (hw : WsOk ws) (hs : s.size ≤ 1100000) :
    Calls Tryz.prog 64 #[.pointer (some ⟨sb, 0, none⟩), .string s] w (DLoad w sb sv (loadR s es nv nt code)) := by
  obtain ⟨R, hR⟩ : ∃ R, R = loadR s es nv nt code := ⟨_, rfl⟩
  rw [← hR]
  unfold loadR at hR
  have hch := ref_characters s w (by omega)
  rw [chars_bad] at hch
  cases hbad : badF s s.size 0 with
  | some k =>
    rw [hbad] at hR hch
    simp only at hR hch
    have HCH := hidden hch
    have HFIN := hidden (show ∃ sv' ws', RefSys w sb sv' ws' nv nt ∧ Alike es ws' ∧ WsOk ws' ∧ Lc w sv sv' from ⟨_, _, hS, hA, hw, Lc.refl _ _⟩)
    subst hR
    clear hch hbad hS hA hw hL
    go_enter Tryz.func64, Tryz.ntmps64
    go_wp2_with fail
    refine HCH.out.mono ?_
    rintro e w1 ⟨rfl, rfl⟩
    clear HCH
    go_wp2_with fail
    exact bodyPost_ret (v := .tuple #[.int .i64 2, .int .i64 k]) (by simp [results, Tryz.results64, go_sem]) rfl ⟨rfl, HFIN.out, Chg.refl _ _⟩
  | none =>
    rw [hbad] at hR hch
    simp only at hR hch
    obtain ⟨q, hq⟩ : ∃ q : Nat, q = 0 + Lib.runeCountFrom s s.size 0 := ⟨_, rfl⟩
    rw [← hq] at hch
    obtain ⟨toks, htk⟩ : ∃ toks, toks = toksAt s 0 := ⟨_, rfl⟩
    have hfl : toks.length ≤ s.size := by rw [htk]; unfold toksAt; have := toks_len s (s.size - 0) 0; omega
    have hld : LD s toks R 0 0 (s.size + 1) es nv nt code ws := ⟨⟨Nat.zero_le _, by rw [htk]; rfl, hbad⟩, Nat.zero_le _, hA, hL, hR, by omega, hw⟩
    have htsz : ∀ i, (tokS toks i).size ≤ 1000000000 := fun i => by rw [htk]; exact Nat.le_trans (toks_sz s _ _ i) (by omega)
    have hq0 : (0 : Int) ≤ (q : Int) := by omega
    have HCH := hidden hch; have HS := hidden hS; have HLD := hidden hld; have HTSZ := hidden htsz; have HTK := hidden htk
    have hsb := hS.blk.lt
    have hwf := hidden (few_ws hL hA)
    have hwk := hidden hw
    clear hch hbad hS hA hL hw hld htsz hR hq htk
    go_enter Tryz.func64, Tryz.ntmps64
    go_wp2_with fail
    refine HCH.out.mono ?_
    rintro e w1 ⟨rfl, rfl⟩
    clear HCH
    have HTO := hidden (fun w' : World => ref_tokens s w' (by omega))
    go_wp2_with fail
    refine (HTO.out _).mono ?_
    rintro e w2 ⟨tv, rfl, hown, hbel⟩
    rw [← HTK.out] at hown
    obtain ⟨rb, hrb⟩ : ∃ rb, rb = w1.heap.size := ⟨_, rfl⟩
    have hbR : Blk w2 rb (rdr sb (.slice none 0 0) 0 s.size 0 0) 181 := by rw [hrb]; exact (blk_new w1 (rdr sb (.slice none 0 0) 0 s.size 0 0) 181).sub hbel (by simp)
    have hcR : Below w1.heap.size w1 w2 := ((Below.refl _ _).alloc (Nat.le_refl _) _).trans (hbel.mono (by simp))
    have hS2 : RefSys w2 sb sv ws nv nt := HS.out.chg (Chg.ofBelow (S := fun _ => False) hcR) id (fun _ _ => id)
    have htr : tv.ownBlock ≠ some rb := own_blk hown hbR (by decide)
    have htv : TokRow w2 tv toks := ownsRow_base hown (fun _ _ => Nat.zero_le _)
    obtain ⟨tad, tcap, htvs, _, _⟩ := row_shape htv
    have r1 : w2.cell? ⟨rb, 1, none⟩ = some (.slice none 0 0) := hbR.cell 1 _ rfl
    have f1 := hbR.frozen 1
    obtain ⟨W, hW⟩ : ∃ W : World, W = w2.setCell ⟨rb, 1, none⟩ tv := ⟨_, rfl⟩
    have hcW : Chg (fun b => b = rb) w2 W := by rw [hW]; exact (Chg.refl (fun b => b = rb) w2).setCell (p := ⟨rb, 1, none⟩) rfl _
    have hbW : Blk W rb (rdr sb tv ((0 : Nat) : Int) s.size 0 0) 181 := by rw [hW]; have := hbR.set (o := 1) tv; simpa [rdr] using this
    have hrw : w1.heap.size ≤ rb := by rw [hrb]; exact Nat.le_refl _
    have hne : rb ≠ sb := by omega
    have hsr : sv.ownBlock ≠ some rb := own_blk hS2.row hbR (by decide)
    have hRd : Rd W rb sb tv sv toks ws nv nt := ⟨htv.chg hcW (fun b hb e => htr (by rw [hb, e])), hS2.chg hcW (fun e => hne e.symm) (fun b hb e => hsr (by rw [hb, e])), htr, hsr, hne, by omega, hwf.out, hwk.out, HTSZ.out⟩
    have hCW : Chg (fun b => b = sb ∨ sv.ownBlock = some b) w1 W := (Chg.ofBelow hcR).thru hcW (fun k hk e => by omega)
    have HRD := hidden hRd; have HBW := hidden hbW; have HCW := hidden hCW; have HTV := hidden htvs
    have hfew := hRd.few
    clear hown hbel hbR hcR hS2 htr htv hcW hbW hRd hCW hsr HS hwf hwk HTO
    rw [htvs] at hW
    clear htvs
    rw [HTV.out]
    rw [← hrb]
    clear hrb
    go_upto_region 6 with fail
    rw [← hW]
    clear hW r1 f1
    go_loopw [45] (fun _ wr => LdInv rb sb tv sv s toks w1 R wr) (fun _ wr => itM toks.length rb wr)
    case atStart => exact Or.inl ⟨0, 0, s.size + 1, es, nv, nt, code, ws, sv, HLD.out, HRD.out, HBW.out, Lc.refl _ _, HCW.out⟩
    case round =>
      clear HLD HRD HBW HCW
      have hrel' := hidden hrel
      clear hrel
      rcases hrel'.out with ⟨I, a, f, es', nv', nt', code', ws', sv', hld, hrd, hb, hlc, hch⟩ | ⟨E, P, J, es', nv', nt', code', ws', sv', hE, hRR, hb, hsy, hal, hok, hlc, hch⟩
      · clear hrel'
        have hM := itM_on (n := toks.length) hb
        obtain ⟨r0, r1, r2, r3, r4, r5⟩ := hb.rdr
        rw [HTV.out] at r1
        have hIle := hld.le
        have HLD := hidden hld; have HRD := hidden hrd; have HB := hidden hb; have HLC := hidden hlc; have HCH := hidden hch; have HM := hidden hM
        by_cases hI : I < toks.length
        · have hli : (I : Int) < (toks.length : Int) := by omega
          have hd : decide ((I : Int) < (toks.length : Int)) = true := by simpa using hI
          clear hld hrd hb hlc hch hM
          go_wp2_with fail
          go_quiet (fail)
          have hbq : Below wr.heap.size wr (wr.drewN nq) := ⟨rfl, rfl, rfl, Nat.le_refl _, fun _ _ => rfl⟩
          obtain ⟨V, hV⟩ : ∃ V : World, V = wr.drewN nq := ⟨_, rfl⟩
          rw [← hV] at hbq
          have hrdV := HRD.out.chg (Chg.ofBelow hbq)
          have hbV : Blk V rb (rdr sb tv I s.size 0 0) 181 := (hbq.block _ HB.out.lt).trans HB.out
          have HNX := hidden (ref_next rb sb tv toks I s.size 0 0 V (by omega) (by omega) hbV hrdV.tok)
          obtain ⟨t, ht⟩ : ∃ t, t = tokS toks I := ⟨_, rfl⟩
          rw [← ht] at HNX
          have HCV := hidden (HCH.out.trans (Chg.ofBelow hbq)); have HRV := hidden hrdV; have HBV := hidden hbV; have HT := hidden ht
          clear r0 r1 r2 r3 r4 r5 hbq hrdV hbV HRD HB HCH ht
          go_wp2_with fail
          rw [← hV]
          clear hV
          refine HNX.out.mono ?_
          rintro e w3 ⟨rfl, hb3⟩
          have hrd3 := HRV.out.chg (Chg.ofBelow hb3)
          have hbk3 : Blk w3 rb (rdr sb tv I s.size 0 0) 181 := (hb3.block _ HBV.out.lt).trans HBV.out
          obtain ⟨r0, r1, r2, r3, r4, r5⟩ := hbk3.rdr
          have fr2 := hbk3.frozen 2
          have HC3 := hidden (HCV.out.trans (Chg.ofBelow hb3)); have HR3 := hidden hrd3; have HB3 := hidden hbk3
          obtain ⟨X, hX⟩ : ∃ X : World, X = w3.setCell ⟨rb, 2, none⟩ (.int .i64 ((I : Int) + 1)) := ⟨_, rfl⟩
          have hbX : Blk X rb (rdr sb tv ((I + 1 : Nat) : Int) s.size 0 0) 181 := by
            rw [hX]; have := hbk3.set (o := 2) (.int .i64 ((I : Int) + 1)); simpa [rdr] using this
          have hcX : Chg (fun b => b = rb) w3 X := by rw [hX]; exact (Chg.refl (fun b => b = rb) w3).setCell (p := ⟨rb, 2, none⟩) rfl _
          have hCX : Chg (fun b => b = sb ∨ sv.ownBlock = some b) w1 X := HC3.out.thru hcX (fun k hk e => by omega)
          have HBX := hidden hbX; have HRX := hidden (hrd3.chg hcX); have HCX := hidden hCX
          clear HNX hb3 hrd3 hbk3 hbX hcX hCX HCV HRV HBV
          by_cases g1 : (t.toList == [118, 97, 114, 105, 97, 98, 108, 101]) = true
          · have hg : ((tokS toks I).toList == [118, 97, 114, 105, 97, 98, 108, 101]) = true := by rw [← HT.out]; exact g1
            by_cases hE : vrE ws' nv' (tokS toks (I + 1)) = 0
            · have HVA := hidden (ref_variable_ok rb sb tv sv' toks ws' nv' nt' (I + 1) s.size 0 X HRX.out HBX.out (by omega) HLD.out.inv.v0 hE)
              obtain ⟨a2, f2, es2, hld2⟩ := HLD.out.var_ok HTK.out hI hg hE
              have HL2 := hidden hld2
              clear hld2 hE hg
              go_upto_region 11 with fail
              rw [← hX]
              clear hX r0 r1 r2 r3 r4 r5 fr2
              go_wp2_with fail
              refine HVA.out.mono ?_
              rintro e w4 ⟨rfl, hb4, ⟨sv4, hs4, hl4⟩, hc4⟩
              have H4 := hidden (And.intro hb4 (And.intro hs4 (And.intro hl4 hc4)))
              clear hb4 hs4 hl4 hc4 HVA
              go_wp2_with fail
              go_roundw
              case rel =>
                obtain ⟨hb4, hs4, hl4, hc4⟩ := H4.out
                exact Or.inl ⟨I + 2, a2, f2, es2, nv' + 1, nt', code', _, sv4, HL2.out, HRX.out.next HBX.out hb4 hc4 hs4 (few_ws HL2.out.inv HL2.out.alike) HL2.out.ok, hb4, HLC.out.trans (hl4.mono HCX.out.size), HCX.out.doc HLC.out hrw hc4⟩
              case measure => rw [itM_on H4.out.1, HM.out]; have := HL2.out.le; omega
            · have HVA := hidden (ref_variable_err rb sb tv sv' toks ws' nv' nt' (I + 1) s.size 0 X HRX.out HBX.out (by omega) hE)
              have HRE := hidden (HLD.out.var_err HTK.out hI hg hE)
              obtain ⟨E, hEE⟩ : ∃ E, E = vrE ws' nv' (tokS toks (I + 1)) := ⟨_, rfl⟩
              rw [← hEE] at HVA HRE hE
              have HE := hidden hE
              clear hg hEE hE
              go_upto_region 11 with fail
              rw [← hX]
              clear hX r0 r1 r2 r3 r4 r5 fr2
              go_wp2_with fail
              refine HVA.out.mono ?_
              rintro e w4 ⟨rfl, hb4, hc4⟩
              have H4 := hidden (And.intro hb4 hc4)
              clear hb4 hc4 HVA
              go_wp2_with fail
              go_roundw
              case rel =>
                obtain ⟨hb4, hc4⟩ := H4.out
                exact Or.inr ⟨E, _, I + 1, es', nv', nt', code', ws', sv', HE.out, HRE.out, hb4, (HRX.out.chg hc4).sys, HLD.out.alike, HLD.out.ok, HLC.out, HCX.out.thru hc4 (fun k hk e => by omega)⟩
              case measure => rw [itM_off H4.out.1 HE.out, HM.out]; omega
          · have g1' : (t.toList == [118, 97, 114, 105, 97, 98, 108, 101]) = false := by simpa using g1
            have hg : ((tokS toks I).toList == [118, 97, 114, 105, 97, 98, 108, 101]) = false := by rw [← HT.out]; exact g1'
            have HG := hidden hg
            clear g1 hg
            by_cases g2 : (t.toList == [58]) = true
            · have hg2 : ((tokS toks I).toList == [58]) = true := by rw [← HT.out]; exact g2
              have hcol := ref_colon rb sb tv sv' toks ws' nv' nt' (I + 1) (toks.length + 1) s.size 0 X HRX.out HBX.out (Nat.le_refl _) (by omega) (by omega) HLD.out.inv.t0 HLD.out.inv.t1
              cases hp : pColon ws' nt' toks s.size (toks.length + 1) (I + 1) with
              | inr q =>
                obtain ⟨E, P⟩ := q
                rw [hp] at hcol
                have HVA := hidden hcol
                have HRE := hidden (HLD.out.word_err HTK.out hI HG.out hg2 (toks.length + 1) (Nat.le_refl _) hp)
                clear hcol hp hg2
                go_upto_region 14 with fail
                rw [← hX]
                clear hX r0 r1 r2 r3 r4 r5 fr2
                go_wp2_with fail
                refine HVA.out.mono ?_
                rintro e w4 ⟨rfl, hE, J, hb4, hc4⟩
                have H4 := hidden (And.intro hE (And.intro hb4 hc4))
                clear hb4 hc4 HVA hE
                go_wp2_with fail
                go_roundw
                case rel =>
                  obtain ⟨hE, hb4, hc4⟩ := H4.out
                  exact Or.inr ⟨E, P, J, es', nv', nt', code', ws', sv', hE, HRE.out, hb4, (HRX.out.chg hc4).sys, HLD.out.alike, HLD.out.ok, HLC.out, HCX.out.thru hc4 (fun k hk e => by omega)⟩
                case measure => rw [itM_off H4.out.2.1 H4.out.1, HM.out]; omega
              | inl q =>
                obtain ⟨t', l, I'⟩ := q
                rw [hp] at hcol
                have HVA := hidden hcol
                have HWO := hidden (fun (v : Value) (hv : ∃ a n c, v = .slice a n c) => HLD.out.word_ok HTK.out hI HG.out hg2 (toks.length + 1) (Nat.le_refl _) hp hv)
                clear hcol hp hg2
                go_upto_region 14 with fail
                rw [← hX]
                clear hX r0 r1 r2 r3 r4 r5 fr2
                go_wp2_with fail
                refine HVA.out.mono ?_
                rintro e w4 ⟨rfl, hb4, hc4, sv4, v4, hv4, hs4, hl4⟩
                obtain ⟨hlt, a2, f2, es2, code2, hld2⟩ := HWO.out v4 hv4
                have H4 := hidden (And.intro hb4 (And.intro hs4 (And.intro hl4 hc4)))
                have HL2 := hidden hld2; have HLT := hidden hlt
                clear hb4 hs4 hl4 hc4 HVA HWO hld2 hlt
                go_wp2_with fail
                go_roundw
                case rel =>
                  obtain ⟨hb4, hs4, hl4, hc4⟩ := H4.out
                  exact Or.inl ⟨I', a2, f2, es2, nv', _, code2, _, sv4, HL2.out, HRX.out.next HBX.out hb4 hc4 hs4 (few_ws HL2.out.inv HL2.out.alike) HL2.out.ok, hb4, HLC.out.trans (hl4.mono HCX.out.size), HCX.out.doc HLC.out hrw hc4⟩
                case measure => rw [itM_on H4.out.1, HM.out]; have := HL2.out.le; have := HLT.out; omega
            · have g2' : (t.toList == [58]) = false := by simpa using g2
              have hg2 : ((tokS toks I).toList == [58]) = false := by rw [← HT.out]; exact g2'
              have HRE := hidden (HLD.out.bad HTK.out hI HG.out hg2)
              have HFA := hidden (ref_fails rb sb tv toks I I s.size 0 3 w3 (by omega) (by omega) HB3.out HR3.out.tok HR3.out.tr)
              clear g2 hg2 hX
              go_wp2_with fail
              refine HFA.out.mono ?_
              rintro e w4 ⟨rfl, hb4, hc4⟩
              have H4 := hidden (And.intro hb4 hc4)
              clear hb4 hc4 HFA r0 r1 r2 r3 r4 r5 fr2
              go_wp2_with fail
              go_roundw
              case rel =>
                obtain ⟨hb4, hc4⟩ := H4.out
                exact Or.inr ⟨3, _, I, es', nv', nt', code', ws', sv', by decide, HRE.out, hb4, (HR3.out.chg hc4).sys, HLD.out.alike, HLD.out.ok, HLC.out, HC3.out.thru hc4 (fun k hk e => by omega)⟩
              case measure => rw [itM_off H4.out.1 (by decide), HM.out]; omega
        · have hli : ¬ (I : Int) < (toks.length : Int) := by omega
          have hd : decide ((I : Int) < (toks.length : Int)) = false := by simpa using hI
          have hRe := hidden (hld.done hI)
          clear hld hrd hb hlc hch hM
          go_wp2_with fail
          go_quiet (fail)
          go_wp2_with fail
          go_quiet (fail)
          go_wp2_with fail
          rw [hRe.out]
          refine bodyPost_ret (v := .tuple #[.int .i64 0, .int .i64 0]) (by simp [results, Tryz.results64, go_sem]) rfl ⟨rfl, ⟨sv', ws', ?_, HLD.out.alike, HLD.out.ok, HLC.out⟩, ?_⟩
          · exact HRD.out.sys.chg (Chg.ofBelow (S := fun _ => False) (show Below wr.heap.size wr _ from ⟨rfl, rfl, rfl, Nat.le_refl _, fun _ _ => rfl⟩)) id (fun _ _ => id)
          · exact HCH.out.trans (Chg.ofBelow (show Below wr.heap.size wr _ from ⟨rfl, rfl, rfl, Nat.le_refl _, fun _ _ => rfl⟩))
      · clear hrel'
        obtain ⟨r0, r1, r2, r3, r4, r5⟩ := hb.rdr
        rw [HTV.out] at r1
        have hEb : (E == 0) = false := by simpa using hE
        have hEd : decide (E = 0) = false := by simpa using hE
        have HFI := hidden (And.intro hRR (And.intro hsy (And.intro hal (And.intro hok (And.intro hlc hch)))))
        clear hE hRR hb hsy hal hok hlc hch
        by_cases hJ : J < toks.length
        · have hli : (J : Int) < (toks.length : Int) := by omega
          have hd : decide ((J : Int) < (toks.length : Int)) = true := by simpa using hJ
          go_wp2_with fail
          go_quiet (fail)
          go_wp2_with fail
          go_quiet (fail)
          go_wp2_with fail
          obtain ⟨hRR, hsy, hal, hok, hlc, hch⟩ := HFI.out
          rw [hRR]
          refine bodyPost_ret (v := .tuple #[.int .i64 E, .int .i64 P]) (by simp [results, Tryz.results64, go_sem]) rfl ⟨rfl, ⟨sv', ws', ?_, hal, hok, hlc⟩, ?_⟩
          · exact hsy.chg (Chg.ofBelow (S := fun _ => False) (show Below wr.heap.size wr _ from ⟨rfl, rfl, rfl, Nat.le_refl _, fun _ _ => rfl⟩)) id (fun _ _ => id)
          · exact hch.trans (Chg.ofBelow (show Below wr.heap.size wr _ from ⟨rfl, rfl, rfl, Nat.le_refl _, fun _ _ => rfl⟩))
        · have hli : ¬ (J : Int) < (toks.length : Int) := by omega
          have hd : decide ((J : Int) < (toks.length : Int)) = false := by simpa using hJ
          go_wp2_with fail
          go_quiet (fail)
          go_wp2_with fail
          go_quiet (fail)
          go_wp2_with fail
          obtain ⟨hRR, hsy, hal, hok, hlc, hch⟩ := HFI.out
          rw [hRR]
          refine bodyPost_ret (v := .tuple #[.int .i64 E, .int .i64 P]) (by simp [results, Tryz.results64, go_sem]) rfl ⟨rfl, ⟨sv', ws', ?_, hal, hok, hlc⟩, ?_⟩
          · exact hsy.chg (Chg.ofBelow (S := fun _ => False) (show Below wr.heap.size wr _ from ⟨rfl, rfl, rfl, Nat.le_refl _, fun _ _ => rfl⟩)) id (fun _ _ => id)
          · exact hch.trans (Chg.ofBelow (show Below wr.heap.size wr _ from ⟨rfl, rfl, rfl, Nat.le_refl _, fun _ _ => rfl⟩))

end Go.Proofs.YtcphhbofjkenaaaGreatDoor
