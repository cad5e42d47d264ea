/- The document's answer: the name of a definition. -/
import Derived.Test.YtcphhbofjkenaaaGreatDoorM15

namespace Go.Proofs.YtcphhbofjkenaaaGreatDoor
open Go Go.RowKit
set_option linter.unusedVariables false
set_option linter.unusedSimpArgs false

/-- What is wrong with a name (0: nothing). -/
def nmE (ws : List RW) (t : ByteArray) : Int := if nameS t = false then 4 else if 40 ≤ ws.length then 8 else 0

theorem RefSys.cells {w : World} {sb : Nat} {v : Value} {ws : List RW} {c k : Int} (h : RefSys w sb v ws c k) : w.cell? ⟨sb, 0, none⟩ = some v ∧ w.cell? ⟨sb, 1, none⟩ = some (.int .i64 c) ∧ w.cell? ⟨sb, 2, none⟩ = some (.int .i64 k) := ⟨h.blk.cell 0 _ rfl, h.blk.cell 1 _ rfl, h.blk.cell 2 _ rfl⟩

set_option maxHeartbeats 2000000 in
set_option maxRecDepth 100000 in
theorem ref_named_ok (rb sb : Nat) (tv sv : Value) (toks : List Tk) (ws : List RW) (c k : Int) (I : Nat) (fin A : Int) (w : World)
    (hR : Rd w rb sb tv sv toks ws c k) (hb : Blk w rb (rdr sb tv I fin 0 A) 181) (hI : I ≤ toks.length) (h0 : nmE ws (tokS toks I) = 0) :
    Calls Tryz.prog 128 #[.pointer (some ⟨rb, 0, none⟩)] w fun e w' => e = .returned (.tuple #[.string (tokS toks I), .bool true]) ∧ Below w.heap.size w w' := by
  have hfew := hR.few
  have hwf := hR.wfew
  have hnx := ref_next rb sb tv toks I fin 0 A w (by omega) (by omega) hb hR.tok
  have hsz := hR.tsz I
  obtain ⟨t, ht⟩ : ∃ t, t = tokS toks I := ⟨_, rfl⟩
  rw [← ht] at hnx h0 hsz ⊢
  have hnm : nameS t = true ∧ ¬ 40 ≤ ws.length := by
    unfold nmE at h0
    cases hh : nameS t with
    | false => rw [hh] at h0; simp at h0
    | true =>
      rw [hh] at h0
      refine ⟨rfl, fun e => ?_⟩
      simp [e] at h0
  have HNX := hidden hnx
  have HNA := hidden (fun w' => ref_name t w' hsz)
  rw [hnm.1] at HNA
  have hlen : ¬ (40 : Int) ≤ (ws.length : Int) := by have := hnm.2; omega
  obtain ⟨ad, cap, hv, hcap, _⟩ := row_shape hR.sys.row
  have HR := hidden hR; have HB := hidden hb; have HV := hidden hv
  clear hnx h0 hsz hnm hR hb ht
  go_enter Tryz.func128, Tryz.ntmps128
  go_wp2_with fail
  refine HNX.out.mono ?_
  rintro e w1 ⟨rfl, h1⟩
  have H1 := hidden h1
  clear h1 HNX
  go_wp2_with fail
  refine (HNA.out _).mono ?_
  rintro e w2 ⟨rfl, h2⟩
  have hbel : Below w.heap.size w w2 := H1.out.trans (h2.mono H1.out.size)
  have hb2 : Blk w2 rb (rdr sb tv I fin 0 A) 181 := (hbel.block _ HB.out.lt).trans HB.out
  have hR2 := HR.out.chg (Chg.ofBelow hbel)
  obtain ⟨r0, r1, r2, r3, r4, r5⟩ := hb2.rdr
  obtain ⟨s0, s1, s2⟩ := hR2.sys.cells
  rw [hv] at s0
  have HBE := hidden hbel
  clear h2 H1 HNA hbel hb2 hR2 hv
  go_wp2_with fail
  exact bodyPost_ret (v := .tuple #[.string t, .bool true]) (by simp [results, Tryz.results128, go_sem]) rfl ⟨rfl, HBE.out⟩

set_option maxHeartbeats 2000000 in
set_option maxRecDepth 100000 in
theorem ref_named_err (rb sb : Nat) (tv sv : Value) (toks : List Tk) (ws : List RW) (c k : Int) (I : Nat) (fin A : Int) (w : World)
    (hR : Rd w rb sb tv sv toks ws c k) (hb : Blk w rb (rdr sb tv I fin 0 A) 181) (hI : I ≤ toks.length) (h0 : nmE ws (tokS toks I) ≠ 0) :
    Calls Tryz.prog 128 #[.pointer (some ⟨rb, 0, none⟩)] w fun e w' => e = .returned (.tuple #[.string ⟨#[]⟩, .bool false]) ∧ Blk w' rb (rdr sb tv I fin (nmE ws (tokS toks I)) (plc toks fin I)) 181 ∧ Chg (fun b => b = rb) w w' := by
  have hfew := hR.few
  have hwf := hR.wfew
  have hnx := ref_next rb sb tv toks I fin 0 A w (by omega) (by omega) hb hR.tok
  have hsz := hR.tsz I
  have HX := hidden (fun (w' : World) (E : Int) (hbel : Below w.heap.size w w') => ref_fails rb sb tv toks I I fin A E w' (by omega) (by omega) ((hbel.block _ hb.lt).trans hb) (hR.chg (Chg.ofBelow hbel)).tok hR.tr)
  obtain ⟨t, ht⟩ : ∃ t, t = tokS toks I := ⟨_, rfl⟩
  rw [← ht] at hnx h0 hsz ⊢
  have HNX := hidden hnx
  have HNA := hidden (fun w' => ref_name t w' hsz)
  obtain ⟨ad, cap, hv, hcap, _⟩ := row_shape hR.sys.row
  have HR := hidden hR; have HB := hidden hb
  clear hnx hsz hR hb ht
  obtain ⟨bn, hbn⟩ : ∃ bn, bn = nameS t := ⟨_, rfl⟩
  rw [← hbn] at HNA
  cases bn with
  | false =>
    have hE : nmE ws t = 4 := by unfold nmE; rw [if_pos hbn.symm]
    rw [hE]
    clear hbn h0 hE
    go_enter Tryz.func128, Tryz.ntmps128
    go_wp2_with fail
    refine HNX.out.mono ?_
    rintro e w1 ⟨rfl, h1⟩
    have H1 := hidden h1
    clear h1 HNX
    go_wp2_with fail
    refine (HNA.out _).mono ?_
    rintro e w2 ⟨rfl, h2⟩
    have hbel : Below w.heap.size w w2 := H1.out.trans (h2.mono H1.out.size)
    have hb2 : Blk w2 rb (rdr sb tv I fin 0 A) 181 := (hbel.block _ HB.out.lt).trans HB.out
    obtain ⟨r0, r1, r2, r3, r4, r5⟩ := hb2.rdr
    have HBE := hidden hbel
    clear h2 H1 HNA hbel hb2
    go_wp2_with fail
    refine (HX.out _ _ HBE.out).mono ?_
    rintro e w3 ⟨rfl, hb3, hc3⟩
    have H3 := hidden hb3; have H4 := hidden ((Chg.ofBelow HBE.out).trans hc3)
    clear hb3 hc3 HX r0 r1 r2 r3 r4 r5
    go_wp2_with fail
    exact bodyPost_ret (v := .tuple #[.string ⟨#[]⟩, .bool false]) (by simp [results, Tryz.results128, go_sem]) rfl ⟨rfl, H3.out, H4.out⟩
  | true =>
    have hful : 40 ≤ ws.length := by
      unfold nmE at h0
      rw [← hbn] at h0
      simp only [Bool.true_eq_false, if_false] at h0
      rcases Nat.lt_or_ge ws.length 40 with h | h
      · rw [if_neg (by omega)] at h0; exact absurd rfl h0
      · exact h
    have hE : nmE ws t = 8 := by unfold nmE; rw [← hbn]; simp [hful]
    rw [hE]
    have hlen : (40 : Int) ≤ (ws.length : Int) := by omega
    clear hbn h0 hE
    go_enter Tryz.func128, Tryz.ntmps128
    go_wp2_with fail
    refine HNX.out.mono ?_
    rintro e w1 ⟨rfl, h1⟩
    have H1 := hidden h1
    clear h1 HNX
    go_wp2_with fail
    refine (HNA.out _).mono ?_
    rintro e w2 ⟨rfl, h2⟩
    have hbel : Below w.heap.size w w2 := H1.out.trans (h2.mono H1.out.size)
    have hb2 : Blk w2 rb (rdr sb tv I fin 0 A) 181 := (hbel.block _ HB.out.lt).trans HB.out
    have hR2 := HR.out.chg (Chg.ofBelow hbel)
    obtain ⟨r0, r1, r2, r3, r4, r5⟩ := hb2.rdr
    obtain ⟨s0, s1, s2⟩ := hR2.sys.cells
    rw [hv] at s0
    have HBE := hidden hbel; have HV := hidden hv
    clear h2 H1 HNA hbel hb2 hR2 hv
    go_wp2_with fail
    refine (HX.out _ _ HBE.out).mono ?_
    rintro e w3 ⟨rfl, hb3, hc3⟩
    have H3 := hidden hb3; have H4 := hidden ((Chg.ofBelow HBE.out).trans hc3)
    clear hb3 hc3 HX r0 r1 r2 r3 r4 r5 s0 s1 s2
    go_wp2_with fail
    exact bodyPost_ret (v := .tuple #[.string ⟨#[]⟩, .bool false]) (by simp [results, Tryz.results128, go_sem]) rfl ⟨rfl, H3.out, H4.out⟩

end Go.Proofs.YtcphhbofjkenaaaGreatDoor
