import Derived.Lib.SliceRun
import Derived.Test.YtcphhbofjkenaaaGreatDoorU38
import Derived.Test.YtcphhbofjkenaaaGreatDoorT42
import Derived.Test.YtcphhbofjkenaaaGreatDoorT02
import Derived.Test.YtcphhbofjkenaaaGreatDoorT34
import Derived.Test.YtcphhbofjkenaaaGreatDoorT35
import Derived.Test.YtcphhbofjkenaaaGreatDoorT37
namespace Go.Proofs.YtcphhbofjkenaaaGreatDoor
open Go Go.RowKit
set_option linter.unusedVariables false
set_option linter.unusedSimpArgs false
section
variable {es : List PE} {code : List Int} {ws : List RW} {l : List TK} {nn : Nat} {ins : List Int}
theorem pun_ok {nv nt : Int} (hk : Alk es code ws) (hi : LInv es nv nt code) (hb : WsB ws) (ha : (admitT ws l).1 = 0) (hc : areC ins = true) (h : Nat) : ∀ i, i < l.length → PunOk ws l l.length h (simS es code ws nn l ins h).es i (costAt (loadsT ws l) i) (respAt (loadsT ws l) l i) (rankP (loadsT ws l) i) := by
  intro i hil
  obtain ⟨s1, s2⟩ := sok (nn := nn) hk hi hb ha hc
  obtain ⟨b1, b2⟩ := admit_resp ha
  obtain ⟨_, a2, _, _⟩ := admit_ok ha
  have hll : (loadsT ws l).length = l.length := by unfold loadsT; rw [List.length_map]
  have hlo := loads_ok hk.toAlike b1
  have e : l.getD i default = l[i] := by simp [hil]
  obtain ⟨w1, ⟨f1, f2, f3, f4, f5, f6⟩, w3, w4⟩ := wrong_fits (b1 l[i] (List.getElem_mem hil))
  have hdl : (l.getD i default).dl ≤ 1000000 := by rw [e]; omega
  have hcr := cost_resp hlo (by omega) (by omega) hdl (b2 i hil)
  have hrp := resp_pos hlo (by omega) (by omega) hdl (b2 i hil)
  obtain ⟨r1, r2⟩ := resp_ok (b2 i hil)
  have hc1 := (ld_at hlo (k := i) (by omega)).1
  simp only at hc1
  refine ⟨by rw [e]; exact w1, (loads_at hil).1.symm, ⟨hc1, hcr, r2, hdl⟩, by rw [← hll]; exact rank_lt (by omega), ?_, ?_, by rw [e]; exact ⟨f1, f2⟩, by rw [e]; exact ⟨f5, f6⟩⟩
  · rw [first_rank (ws := ws) hil]
    by_cases hr : rankP (loadsT ws l) i = 0
    · have hah : aheadP (loadsT ws l) i (loadsT ws l).length = [] := List.length_eq_zero_iff.1 hr
      have hR : respAt (loadsT ws l) l i = costAt (loadsT ws l) i := by
        rw [← r1]
        unfold demandT
        rw [hah]
        simp [within]
      rw [decide_eq_true hR, decide_eq_true hr]; rfl
    · rw [decide_eq_false hr, Bool.and_false]
  · have hti : (tsOf es l)[i]? = some ⟨l[i].word, l[i].per, l[i].dl, l[i].off, ((startOf (lastP es l[i].word es.length)).getD 0).toNat⟩ := by
      unfold tsOf
      rw [List.getElem?_map, List.getElem?_eq_getElem hil]; rfl
    obtain ⟨R, hR⟩ : ∃ R : Nat, respAt (loadsT ws l) l i = R := ⟨(respAt (loadsT ws l) l i).toNat, by omega⟩
    rw [hR] at r1 r2 hrp ⊢
    rw [e] at r2 ⊢
    exact punct_end s1 s2 hti r1 (by omega) (by show (R : Int) ≤ l[i].per; omega) f5 h
end
set_option maxRecDepth 100000 in
set_option maxHeartbeats 4000000 in
theorem keep_met {B : Nat} (w : World) (ht : Tab w) (a1 a2 a3 : Option Addr) (n1 c1 n2 c2 n3 c3 : Nat) (l1 l3 : List Int) (jl : List JR) (z : Int) (h1 : InsAt B w (.slice a1 n1 c1) l1) (h2 : JsAt B w (.slice a2 n2 c2) jl) (h3 : InsAt B w (.slice a3 n3 c3) l3) (i1 : ∀ x ∈ l1, I64 x) (i2 : ∀ j ∈ jl, j.Ok) (i3 : ∀ x ∈ l3, I64 x) (iz : I64 z) (hB : B ≤ w.heap.size) (e1 : l1.length ≤ 17592186043904) (e2 : jl.length ≤ 17592186043904) (e3 : l3.length ≤ 17592186043904) :
    Calls Tryz.prog 9 #[.slice a1 n1 c1, .slice a2 n2 c2, .slice a3 n3 c3, .int .i64 z] w fun e w' => e = .returned (.bool true) ∧ Below w.heap.size w w' := by
  have HT := hidden ht
  have HM := hidden (mk_madeG w a1 n1 c1 l1 false h1 i1 hB e1)
  have H2 := hidden h2; have H3 := hidden h3; have HI2 := hidden i2; have HI3 := hidden i3; have HZ := hidden iz
  clear ht h1 h2 h3 i1 i2 i3 iz
  go_enter Tryz.func9, Tryz.ntmps9
  go_wp2_with fail
  refine HM.out.mono ?_
  rintro e w1 ⟨mb, i, s, k, v, rfl, hmb, k1, k4, hsz, hto, hcn, hbl, hb1⟩
  have HL := hidden (keep_loaded2 w1 mb hbl (HT.out.below hb1) hsz)
  have HBL := hidden hbl; have HB1 := hidden hb1; have HTO := hidden hto
  clear hbl hb1 HM hto hcn
  go_wp2_with fail
  refine HL.out.mono ?_
  rintro e w2 ⟨aa, eva, cva, ws, rfl, haa, ⟨hA, hAk, hWs⟩, hb2⟩
  have hw01 := HB1.out.size
  have hes := made_words HTO.out
  obtain ⟨wsx, x1, x2, x3⟩ := load_ws s alk_nil LInv.zero wsOk_nil WsB.nil
  have hMS : MSys (fun _ => True) w1.heap.size w2 aa eva cva (loadR s [] 0 0 []).2 wsx := ⟨hA, x1, x2, x3, hes, trivial⟩
  have hTab1 := HT.out.below HB1.out
  have hjs2 : JsAt B w2 (.slice a2 n2 c2) jl := H2.out.below ((HB1.out.trans (hb2.mono HB1.out.size)).mono hB)
  have HTK := hidden (keep_tasks (fun _ _ _ _ _ _ _ _ _ _ => trivial) hMS hb2.size (HBL.out.sub hb2 HBL.out.lt) k1 k4 hjs2 HI2.out (Nat.le_trans hB hw01) e2 hTab1.lt)
  have HB2 := hidden (HB1.out.trans (hb2.mono HB1.out.size))
  have hcl2 : InsAt B w2 (.slice a3 n3 c3) l3 := H3.out.below (HB2.out.mono hB)
  generalize ((loadR s [] 0 0 []).1.1 == 0) = okb
  clear hA hAk hWs hb2 hes x1 x2 x3 hMS hTab1 hjs2 hcl2 HL HBL HB1 HTO H2 HI2
  go_wp2_with fail
  refine HTK.out.mono ?_
  rintro e w3 ⟨va, vn, vc, ev, cv, R, ws3, tl, rfl, hTM⟩
  have HTM := hidden hTM
  clear hTM HTK
  go_wp2_with fail
  refine (keep_pick z 6000 HZ.out (by omega) (by omega) _).mono ?_
  rintro e w3' ⟨hz, rfl, hz0, hz1, rfl⟩
  obtain ⟨H, rfl⟩ : ∃ H : Nat, hz = H := ⟨hz.toNat, by omega⟩
  have hB03 : Below w.heap.size w w3' := HB2.out.trans (HTM.out.bel.mono hw01)
  have HB03 := hidden hB03
  have HCL := hidden (keep_cells w3' a3 n3 c3 l3 (H3.out.below (hB03.mono hB)) HI3.out (Nat.le_trans hB hB03.size) e3)
  clear hB03 H3 HI3
  go_wp2_with fail
  refine HCL.out.mono ?_
  rintro e w4 ⟨cvv, xs, rfl, hcr, hxl⟩
  obtain ⟨qa, qn, qc, rfl⟩ := irow_shape hcr.row
  have hTM4 := HTM.out.below hcr.bel
  have hB04 : Below w.heap.size w w4 := HB03.out.trans (hcr.bel.mono HB03.out.size)
  have hxs : areC xs = true := areC_of hcr.cel
  obtain ⟨t1, t2, t3⟩ := ts_row hTM4.row
  have hqn : qn = xs.length := by
    obtain ⟨ad, cap, e, _⟩ := row_shape hcr.row
    simp at e; exact e.2.1
  have hin4 : InsAt w4.heap.size w4 (.slice qa qn qc) xs := by
    have := insAt_take (B' := w4.heap.size) hcr.row (Nat.le_refl _) xs.length (Nat.le_refl _)
    rw [List.take_length, ← hqn] at this
    exact this
  have h4l : tl.length ≤ 4 := hTM4.few
  have hbig : vn ≤ 1100000 := by omega
  have HAD := hidden (rates_admit tl va vn vc hTM4.sys.l.sys (by have := hTM4.sys.l.inv.l; omega) hTM4.sys.alk.toAlike t1 t2 hbig (t3.imp id fun ⟨tg, e, g⟩ => ⟨tg, e, g.1, g.2⟩))
  have HMA := hidden (made_admit hTM4.sys.alk hTM4.ok (by omega))
  have HTM4 := hidden hTM4; have HB04 := hidden hB04; have HXS := hidden hxs; have HIN := hidden hin4; have HT1 := hidden t1; have HT3 := hidden t3; have HXL := hidden (show xs.length ≤ 17592186043904 by omega)
  have hv4 : vn ≤ 4 := by omega
  clear hcr hxl hTM4 hB04 hxs hin4 t1 t3 hqn h4l HTM HB03 HCL HB2
  go_wp2_with fail
  refine HAD.out.mono ?_
  rintro e w5 ⟨⟨pa, pn, pc, rfl, herr, hok⟩, hb5⟩
  have hTM5 := HTM4.out.below hb5
  have HSI := hidden (rates_simulate tl va vn vc (H : Int) hTM5.sys.l.sys hTM5.sys.l.inv hTM5.sys.alk hTM5.sys.l.tab HT1.out t2 hbig (HT3.out.imp id fun ⟨tg, e, g⟩ => ⟨tg, e, (g.below hb5).1, (g.below hb5).2⟩) ((HIN.out.below hb5).mono hb5.size) HXL.out)
  have hsc : simC ws3 tl xs (H : Int) = admitT ws3 tl := by unfold simC; rw [if_pos ⟨by omega, by omega, HXS.out⟩]
  obtain ⟨E, hE⟩ : ∃ E, E = (admitT ws3 tl).1 := ⟨_, rfl⟩
  obtain ⟨K, hK⟩ : ∃ K, K = (admitT ws3 tl).2 := ⟨_, rfl⟩
  rw [← hE] at herr hok
  rw [← hE, ← hK]
  have HSC : Hid (simC ws3 tl xs (H : Int) = (E, K)) := hidden (by rw [hsc, hE, hK])
  have HAE : Hid (admitT ws3 tl = (E, K)) := hidden (by rw [hE, hK])
  have HERR := hidden herr; have HOK := hidden hok; have HB5 := hidden hb5; have HTM5 := hidden hTM5
  clear herr hok hb5 hTM5 hsc hE hK HAD
  go_wp2_with fail
  refine HSI.out.mono ?_
  rintro e w6 ⟨⟨ea, en, ec, rfl, herr2, hok2⟩, hb6⟩
  rw [HSC.out] at herr2 hok2 ⊢
  simp only at herr2 hok2 ⊢
  have hTM6 := HTM5.out.below hb6
  have HTM6 := hidden hTM6; have HB6 := hidden hb6; have HER2 := hidden herr2; have HOK2 := hidden hok2
  have HB06 := hidden (HB04.out.trans ((HB5.out.trans (hb6.mono HB5.out.size)).mono HB04.out.size))
  clear herr2 hok2 hb6 hTM6 HSI
  rcases HMA.out with ⟨m1, m2⟩ | ⟨m1, m2⟩
  · have hEK := HAE.out
    rw [m2] at hEK
    obtain ⟨rfl, rfl⟩ : E = 1 ∧ K = 0 := by simpa [eq_comm] using hEK
    have hv0 : vn = 0 := by rw [HT1.out, m1]; rfl
    subst hv0
    clear hEK m1 m2
    go_wp2_with fail
    go_ret
    exact ⟨rfl, HB06.out⟩
  · have hvn := HT1.out
    have hv0 : 0 < vn := by omega
    obtain ⟨tg, rfl, hTs⟩ : ∃ tg, va = some ⟨tg, 0, none⟩ ∧ TsAt w4 tg tl := by
      rcases HT3.out with g | g
      · omega
      · exact g
    have hb46 : Below w4.heap.size w4 w6 := HB5.out.trans (HB6.out.mono HB5.out.size)
    have hTs6 := hTs.below hb46
    have hKS : KSys w6 aa R ws3 := ⟨⟨_, _, HTM6.out.sys.l.sys⟩, HTM6.out.sys.l.inv, HTM6.out.sys.alk, HTM6.out.sys.wsb, HTM6.out.sys.l.tab⟩
    have hne : (vn == 0) = false := by simp; omega
    have hne2 : ¬ (vn : Int) = 0 := by omega
    rcases m2 with m2 | ⟨kk, m2, m3, m4, m5⟩
    · have hEK := HAE.out
      obtain ⟨_, g8, g9, _⟩ := admit_ok m2
      rw [hEK] at m2 g9
      simp only at m2 g9
      subst m2
      subst g9
      obtain ⟨o1, o2, o3, o4⟩ := HOK.out rfl
      have ho2 := HOK2.out rfl
      have hadm0 : (admitT ws3 tl).1 = 0 := by rw [hEK]
      obtain ⟨pg, pcap, hpv, _, hpg, hpn, _, hcc⟩ := row_cells o4 (by omega)
      simp only [Value.slice.injEq] at hpv
      obtain ⟨rfl, _, rfl⟩ := hpv
      obtain rfl : pn = vn := by omega
      have hpl : ∀ k, k < pn → w6.cell? ⟨pg, k * 3, none⟩ = some (.int .i64 (costAt (loadsT ws3 tl) k)) ∧ w6.cell? ⟨pg, k * 3 + 1, none⟩ = some (.int .i64 (rankP (loadsT ws3 tl) k : Int)) ∧ w6.cell? ⟨pg, k * 3 + 2, none⟩ = some (.int .i64 (respAt (loadsT ws3 tl) tl k)) := fun k hk => by
        refine ⟨?_, ?_, ?_⟩
        · rw [HB6.out.cell (p := ⟨pg, k * 3, none⟩) hpg]
          exact hcc (k * 3 + 0) _ (by rw [plans_get _ _ _ k 0 hk (by decide)]; rfl)
        · rw [HB6.out.cell (p := ⟨pg, k * 3 + 1, none⟩) hpg]
          exact hcc _ _ (by rw [plans_get _ _ _ k 1 hk (by decide)]; rfl)
        · rw [HB6.out.cell (p := ⟨pg, k * 3 + 2, none⟩) hpg]
          exact hcc _ _ (by rw [plans_get _ _ _ k 2 hk (by decide)]; rfl)
      rw [Int.toNat_natCast] at ho2
      have hsk := (sok (nn := R.2.1.toNat) hKS.alk hKS.inv hKS.wsb hadm0 HXS.out).1
      have hle := (hsk.simI H).le
      rw [spOf_at] at hle
      have HPU := hidden (keep_punctual (h := (H : Int)) (Cf := costAt (loadsT ws3 tl)) (Rf := respAt (loadsT ws3 tl) tl) (rf := rankP (loadsT ws3 tl)) hKS hTs6 hvn t2 (by omega) hpn (Nat.lt_of_lt_of_le hpg HB6.out.size) hpl ho2 (by omega) (by omega) (by omega) (fun i hi => by
        have := pun_ok (nn := R.2.1.toNat) hKS.alk hKS.inv hKS.wsb hadm0 HXS.out H i (by omega)
        rw [← hvn] at this
        exact this))
      clear o1 o2 o3 o4 ho2 hadm0 hcc hpl hsk hle hEK m1 hTs hTs6 hKS hvn g8 hb46
      go_wp2_with fail
      refine HPU.out.mono ?_
      rintro e w7 ⟨rfl, hb7⟩
      have HB07 := hidden (HB06.out.trans (hb7.mono HB06.out.size))
      clear hb7 HPU
      go_wp2_with fail
      go_ret
      exact ⟨rfl, HB07.out⟩
    · have hEK := HAE.out
      rw [m3] at hEK
      obtain ⟨rfl, rfl⟩ : E = 11 ∧ K = kk := by simpa [eq_comm] using hEK
      obtain ⟨rfl, rfl, rfl⟩ := HERR.out (by decide)
      obtain ⟨rfl, rfl, rfl⟩ := HER2.out (by decide)
      have htk : ∀ j, j < vn → wrongT ws3 (tl.getD j default) = 0 ∧ 1 ≤ (findI ws3 (tl.getD j default).word).1.steps ∧ (findI ws3 (tl.getD j default).word).1.steps ≤ 500 ∧ (findI ws3 (tl.getD j default).word).1.steps ≤ (tl.getD j default).dl := fun j hj => by
        have hjl : j < tl.length := by omega
        have e : tl.getD j default = tl[j] := by simp [hjl]
        rw [e]
        exact tk_right hKS.alk (HTM6.out.ok tl[j] (List.getElem_mem hjl))
      have HLA := hidden (keep_late hKS hTs6 hvn hv0 t2 (by omega) K (by omega) (by rw [hvn]; exact m4) (fun j hj => by have := htk j hj; omega) (fun j hj => by
        have := htk j hj
        obtain ⟨_, ⟨_, q2, q3, q4, _⟩, _⟩ := wrong_fits this.1
        omega))
      rw [hvn, decide_eq_true m5, ← hvn] at HLA
      clear hEK m1 m2 m3 m4 m5 hTs hTs6 hKS hvn htk hb46
      go_wp2_with fail
      refine HLA.out.mono ?_
      rintro e w7 ⟨rfl, hb7⟩
      have HB07 := hidden (HB06.out.trans (hb7.mono HB06.out.size))
      clear hb7 HLA
      have hn1 := fun w => Lib.run_eql_slice_nil (P := Tryz.prog) w 57 133 none 0 0 0 0 Tryz.underlying57
      have hn2 := fun w => Lib.run_eql_slice_nil (P := Tryz.prog) w 60 69 none 0 0 0 0 Tryz.underlying60
      go_wp2_with fail
      go_ret
      exact ⟨rfl, HB07.out⟩
end Go.Proofs.YtcphhbofjkenaaaGreatDoor
