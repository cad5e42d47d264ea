import Derived.Test.YtcphhbofjkenaaaGreatDoorU36
import Derived.Test.YtcphhbofjkenaaaGreatDoorV36
namespace Go.Proofs.YtcphhbofjkenaaaGreatDoor
open Go Go.RowKit
set_option linter.unusedVariables false
set_option linter.unusedSimpArgs false
attribute [local go_sem] quietG
theorem keep_late0 {w : World} {bb tc : Nat} {ta : Option Addr} : Calls Tryz.prog 30 #[.pointer (some ⟨bb, 0, none⟩), .slice ta 0 tc, .int .i64 0] w fun e w' => e = .returned (.bool false) ∧ Below w.heap.size w w' := by
 go_enter Tryz.func30, Tryz.ntmps30
 go_wp2_with fail
 go_ret
 exact ⟨rfl, Below.refl _ _⟩
theorem unE_some {i : Nat} {O : List Int} {c c' : Nat} {e : EV} (h : unE i O c e = some c') : (e.task ≠ i ∧ c' = c) ∨ (e.task = i ∧ ((e.kind = 3 ∧ O[c]? = some e.val ∧ c' = c + 1) ∨ (e.kind = 2 ∧ c = O.length ∧ e.val = 0 ∧ c' = 0) ∨ (e.kind ≠ 3 ∧ e.kind ≠ 2 ∧ c' = c))) := by
 unfold unE at h
 split at h
 ·rename_i h1
  exact Or.inl ⟨h1, (Option.some.inj h).symm⟩
 ·rename_i h1
  refine Or.inr ⟨by omega, ?_⟩
  split at h
  ·rename_i h2
   split at h
   ·rename_i h3
    exact Or.inl ⟨h2, h3, (Option.some.inj h).symm⟩
   ·cases h
  ·rename_i h2
   split at h
   ·rename_i h3
    split at h
    ·rename_i h4
     exact Or.inr (Or.inl ⟨h3, h4.1, h4.2, (Option.some.inj h).symm⟩)
    ·cases h
   ·rename_i h3
    exact Or.inr (Or.inr ⟨h2, h3, (Option.some.inj h).symm⟩)
set_option maxRecDepth 100000 in
set_option maxHeartbeats 4000000 in
theorem keep_unseen {B : Nat} (w : World) (ht : Tab w) (a1 a2 : Option Addr) (n1 c1 n2 c2 : Nat) (l1 : List Int) (jl : List JR) (z : Int) (h1 : InsAt B w (.slice a1 n1 c1) l1) (h2 : JsAt B w (.slice a2 n2 c2) jl) (i1 : ∀ x ∈ l1, I64 x) (i2 : ∀ j ∈ jl, j.Ok) (iz : I64 z) (hB : B ≤ w.heap.size) (e1 : l1.length ≤ 17592186043904) (e2 : jl.length ≤ 17592186043904) :
  Calls Tryz.prog 10 #[.slice a1 n1 c1, .slice a2 n2 c2, .int .i64 z] w fun e w' => e = .returned (.bool true) ∧ Below w.heap.size w w' := by
 have HT := hidden ht
 have HM := hidden (mk_madeG w a1 n1 c1 l1 true h1 i1 hB e1)
 have H2 := hidden h2; have HI2 := hidden i2; have HZ := hidden iz
 clear ht h1 h2 i1 i2 iz
 go_enter Tryz.func10, Tryz.ntmps10
 go_wp2_with fail
 refine HM.out.mono ?_
 rintro e w1 ⟨mb, i, s, k, v, rfl, hmb, k1, k4, hsz, hto, hcn, hbl, hb1⟩
 have HL := hidden (keep_loaded2 w1 mb hbl (HT.out.below hb1) hsz)
 have HBL := hidden hbl; have HB1 := hidden hb1; have HTO := hidden hto
 clear hbl hb1 HM hto hcn
 go_wp2_with fail
 refine HL.out.mono ?_
 rintro e w2 ⟨aa, eva, cva, ws, rfl, haa, ⟨hA, hAk, hWs⟩, hb2⟩
 have hw01 := HB1.out.size
 have hes := made_words HTO.out
 obtain ⟨wsx, x1, x2, x3⟩ := load_ws s alk_nil LInv.zero wsOk_nil WsB.nil
 have hMS : MSys (fun R => QCode R.1 R.2.2.2) w1.heap.size w2 aa eva cva (loadR s [] 0 0 []).2 wsx := ⟨hA, x1, x2, x3, hes, made_qcode HTO.out⟩
 have hTab1 := HT.out.below HB1.out
 have hjs2 : JsAt B w2 (.slice a2 n2 c2) jl := H2.out.below ((HB1.out.trans (hb2.mono HB1.out.size)).mono hB)
 have HTK := hidden (keep_tasks (fun c d k s R hc hd hk hs hq => task_qcode hc hd hk hs hq) hMS hb2.size (HBL.out.sub hb2 HBL.out.lt) k1 k4 hjs2 HI2.out (Nat.le_trans hB hw01) e2 hTab1.lt)
 have HB2 := hidden (HB1.out.trans (hb2.mono HB1.out.size))
 generalize ((loadR s [] 0 0 []).1.1 == 0) = okb
 clear hA hAk hWs hb2 hes x1 x2 x3 hMS hTab1 hjs2 HL HBL HB1 HTO H2 HI2
 go_wp2_with fail
 refine HTK.out.mono ?_
 rintro e w3 ⟨va, vn, vc, ev, cv, R, ws3, tl, rfl, hTM⟩
 have HTM := hidden hTM
 clear hTM HTK
 go_wp2_with fail
 refine (keep_pick z 6000 HZ.out (by omega) (by omega) _).mono ?_
 rintro e w5 ⟨hz, rfl, hz0, hz1, rfl⟩
 obtain ⟨H, rfl⟩ : ∃ H : Nat, hz = H := ⟨hz.toNat, by omega⟩
 have hB05 : Below w.heap.size w w5 := HB2.out.trans (HTM.out.bel.mono hw01)
 have hTM5 := HTM.out
 obtain ⟨t1, t2, t3⟩ := ts_row hTM5.row
 have h4l : tl.length ≤ 4 := hTM5.few
 have hbig : vn ≤ 1100000 := by omega
 have HMA := hidden (made_admit hTM5.sys.alk hTM5.ok (by omega))
 have HSI := hidden (rates_simulate (iv := .slice none 0 0) (ins := []) tl va vn vc (H : Int) hTM5.sys.l.sys hTM5.sys.l.inv hTM5.sys.alk hTM5.sys.l.tab t1 t2 hbig (t3.imp id fun ⟨tg, e, g⟩ => ⟨tg, e, g.1, g.2⟩) (Or.inl ⟨rfl, none, 0, rfl⟩) (by simp))
 have hsc : simC ws3 tl [] (H : Int) = admitT ws3 tl := by unfold simC; rw [if_pos ⟨by omega, by omega, rfl⟩]
 obtain ⟨E, hE⟩ : ∃ E, E = (admitT ws3 tl).1 := ⟨_, rfl⟩
 obtain ⟨K, hK⟩ : ∃ K, K = (admitT ws3 tl).2 := ⟨_, rfl⟩
 have HSC : Hid (simC ws3 tl [] (H : Int) = (E, K)) := hidden (by rw [hsc, hE, hK])
 have HAE : Hid (admitT ws3 tl = (E, K)) := hidden (by rw [hE, hK])
 have HB05 := hidden hB05; have HT1 := hidden t1; have HT3 := hidden t3
 have hv4 : vn ≤ 4 := by omega
 clear hB05 hTM5 t1 t3 h4l hsc hE hK HB2
 go_wp2_with fail
 refine HSI.out.mono ?_
 rintro e w6 ⟨⟨ea, en, ec, rfl, herr2, hok2⟩, hb6⟩
 rw [HSC.out] at herr2 hok2 ⊢
 simp only at herr2 hok2 ⊢
 have HTM6 := hidden (HTM.out.below hb6)
 have HER2 := hidden herr2; have HOK2 := hidden hok2; have HB6 := hidden hb6
 have HB06 := hidden (HB05.out.trans (hb6.mono HB05.out.size))
 clear herr2 hok2 hb6 HSI HTM HB05
 rcases HMA.out with ⟨m1, m2⟩ | ⟨m1, m2⟩
 ·have hEK := HAE.out
  rw [m2] at hEK
  obtain ⟨rfl, rfl⟩ : E = 1 ∧ K = 0 := by simpa [eq_comm] using hEK
  have hv0 : vn = 0 := by rw [HT1.out, m1]; rfl
  subst hv0
  clear hEK m1 m2
  go_wp2_with fail
  refine keep_late0.mono ?_
  rintro e w7 ⟨rfl, hb7⟩
  have HB07 := hidden (HB06.out.trans (hb7.mono HB06.out.size))
  clear hb7
  go_wp2_with fail
  go_ret
  exact ⟨rfl, HB07.out⟩
 ·have hvn := HT1.out
  have hv0 : 0 < vn := by omega
  obtain ⟨tg, rfl, hTs⟩ : ∃ tg, va = some ⟨tg, 0, none⟩ ∧ TsAt w5 tg tl := by
   rcases HT3.out with g | g
   ·omega
   ·exact g
  have hTs6 := hTs.below HB6.out
  have hKS : KSys w6 aa R ws3 := ⟨⟨_, _, HTM6.out.sys.l.sys⟩, HTM6.out.sys.l.inv, HTM6.out.sys.alk, HTM6.out.sys.wsb, HTM6.out.sys.l.tab⟩
  have hne : (vn == 0) = false := by simp; omega
  have hne2 : ¬ (vn : Int) = 0 := by omega
  rcases m2 with m2 | ⟨kk, m2, m3, m4, m5⟩
  ·have hEK := HAE.out
   obtain ⟨_, g8, g9, _⟩ := admit_ok m2
   have hadm0 := m2
   rw [hEK] at m2 g9
   simp only at m2 g9
   subst m2
   subst g9
   have ho2 := HOK2.out rfl
   rw [Int.toNat_natCast] at ho2
   have hsk := (sok (nn := R.2.1.toNat) (ins := []) hKS.alk hKS.inv hKS.wsb hadm0 rfl).1
   have hle := (hsk.simI H).le
   rw [spOf_at] at hle
   have HUN : Hid (∀ i, i < vn → UnOk ws3 R.2.1.toNat tl (simS R.1 R.2.2.2 ws3 R.2.1.toNat tl [] H).es i) := hidden (fun i hi => unseen_ok hKS.alk hKS.inv hKS.wsb HTM6.out.sys.kk hadm0 HTM6.out.ok H i (by omega))
   obtain ⟨evs, hevs⟩ : ∃ evs, evs = (simS R.1 R.2.2.2 ws3 R.2.1.toNat tl [] H).es := ⟨_, rfl⟩
   rw [← hevs] at ho2 hle HUN
   have hen : en = evs.length := by
    obtain ⟨ad, cap, e, _⟩ := row_shape ho2
    simp at e; exact e.2.1
   have heni : (en : Int) ≤ 1000000 := by omega
   have HE := hidden ho2; have HEN := hidden hen; have HKS := hidden hKS; have HTS := hidden hTs6; have HVN := hidden hvn
   clear hevs ho2 hle hen hKS hTs6 hTs hvn hsk hadm0 hEK m1 g8 HMA HSC HAE HT1 HT3 HER2 HOK2 HTM6 HB6 hne hne2
   go_wp2_with fail
   go_loopw [16] (fun kv wr => ∃ i : Nat, i ≤ vn ∧ kv = .int .i64 i ∧ Hid (Below w6.heap.size w6 wr)) (fun kv _ => vn - (intOf kv).toNat)
   case atStart => exact ⟨0, Nat.zero_le _, rfl, hidden (Below.refl _ _)⟩
   case round =>
    obtain ⟨i, hi, rfl, HB⟩ := hrel
    by_cases hlt : i < vn
    ·have hii : (i : Int) < (vn : Int) := by omega
     obtain ⟨o1, o2, o3, cF, o4⟩ := HUN.out i hlt
     have hTr := HTS.out.below HB.out
     obtain ⟨c0, c1', c2', c3⟩ := hTr.get (k := i) (by rw [← HVN.out]; exact hlt)
     obtain ⟨t, htt⟩ : ∃ t, t = tl.getD i default := ⟨_, rfl⟩
     rw [← htt] at c0 o1 o2 o3 o4
     have HRN := hidden (keep_run (sv := .slice none 0 0) (iv := .slice none 0 0) (HKS.out.below HB.out) t.word 1000 (Or.inl ⟨rfl, none, 0, rfl⟩) (Or.inl ⟨rfl, none, 0, rfl⟩) o1 (by decide) (by simp))
     obtain ⟨D, hD⟩ : ∃ D, D = runD ws3 R.2.1.toNat t.word [] [] (1000 : Int).toNat := ⟨_, rfl⟩
     rw [← hD] at o2 o3 o4 HRN
     obtain ⟨D1, D2, D3, D4⟩ := D
     simp only at o2 o3 o4 HRN
     subst o2
     obtain ⟨O, hO⟩ : ∃ O, O = D4.outs := ⟨_, rfl⟩
     rw [← hO] at o3 o4 HRN
     have HO4 := hidden o4; have HO3 := hidden o3
     have htgr := hTr.1
     clear c1' c2' c3 o1 o3 o4 hD hO hTr htt
     go_wp2_with fail
     refine HRN.out.mono ?_
     rintro e w7 ⟨xa, oa, va', xn, xc, on, oc, vn', vc', rfl, ho, hxn, hb7⟩
     clear hxn
     have hon : on = O.length := by
      obtain ⟨ad, cap, e, _⟩ := row_shape ho.o
      simp at e; exact e.2.1
     obtain ⟨X, hX⟩ : ∃ X : World, X = w7.alloc (.cells #[.slice xa xn xc, .slice oa on oc, .slice va' vn' vc', .int .i64 D1, .int .i64 0] 43 (0, 0)) := ⟨_, rfl⟩
     obtain ⟨ob, hob⟩ : ∃ ob, ob = w7.heap.size := ⟨_, rfl⟩
     have hbX : Below w7.heap.size w7 X := by rw [hX]; exact (Below.refl _ _).alloc (Nat.le_refl _) _
     have hkX : Blk X ob #[.slice xa xn xc, .slice oa on oc, .slice va' vn' vc', .int .i64 D1, .int .i64 0] 43 := by rw [hX, hob]; exact blk_new w7 _ _
     have HBX := hidden (HB.out.trans ((hb7.trans (hbX.mono hb7.size)).mono HB.out.size))
     have HOR := hidden (ownsRow_chg ho.o (Chg.ofBelow (S := fun _ => False) hbX) (fun _ _ => id))
     have z4 : X.cell? ⟨ob, 4, none⟩ = some (.int .i64 0) := hkX.cell 4 _ rfl
     have hol := hkX.lt
     have HX := hidden hX; have HOB := hidden hob; have HKX := hidden hkX; have HON := hidden hon
     have hon6 : (on : Int) ≤ 1000000 := by have := HO3.out; omega
     clear ho hb7 hX hob hbX hkX hon c0 HRN
     go_upto_region 15 with fail
     rw [← HX.out, ← HOB.out]
     go_wp2_with fail
     go_loopw [19, 20] (fun cv' kv wr => ∃ (k c : Nat), k ≤ en ∧ c ≤ on ∧ cv' = .int .i64 c ∧ kv = .int .i64 k ∧ Hid (unR i O c (evs.drop k) = some cF) ∧ Hid (Below X.heap.size X wr)) (fun _ kv _ => en - (intOf kv).toNat)
     case atStart => exact ⟨0, 0, Nat.zero_le _, Nat.zero_le _, rfl, rfl, HO4, hidden (Below.refl _ _)⟩
     case round =>
      clear z4
      obtain ⟨k, c, hk, hc, rfl, rfl, HPN, HBK⟩ := hrel
      by_cases hklt : k < en
      ·have hki : (k : Int) < (en : Int) := by omega
       have hkl2 : k < evs.length := by rw [← HEN.out]; exact hklt
       obtain ⟨ee, hee⟩ : ∃ ee, ee = evs[k] := ⟨_, rfl⟩
       have hdr : evs.drop k = ee :: evs.drop (k + 1) := by rw [hee]; exact List.drop_eq_getElem_cons hkl2
       have hpn := HPN.out
       rw [hdr, unR] at hpn
       have hrow := ownsRow_chg HE.out (Chg.ofBelow (S := fun _ => False) (HBX.out.trans (HBK.out.mono HBX.out.size))) (fun _ _ => id)
       obtain ⟨eg, ecap, hv, _, hgl, _, _, hcc⟩ := row_cells hrow (by omega)
       simp only [Value.slice.injEq] at hv
       obtain ⟨rfl, -, rfl⟩ := hv
       have hcell : ∀ m u, ee.cells[m]? = some u → wr.cell? ⟨eg, k * 4 + m, none⟩ = some u := fun m u hm => by
        have hm4 : m < 4 := by have := (List.getElem?_eq_some_iff.1 hm).1; simpa [EV.cells] using this
        exact hcc _ _ (by rw [flat_get EV.cells 4 (fun _ => rfl) evs k m hkl2 hm4, ← hee]; exact hm)
       have e0 : wr.cell? ⟨eg, k * 4, none⟩ = some (.int .i64 ee.kind) := hcell 0 _ rfl
       have e1 : wr.cell? ⟨eg, k * 4 + 1, none⟩ = some (.int .i64 ee.task) := hcell 1 _ rfl
       have e2 : wr.cell? ⟨eg, k * 4 + 2, none⟩ = some (.int .i64 ee.tick) := hcell 2 _ rfl
       have e3 : wr.cell? ⟨eg, k * 4 + 3, none⟩ = some (.int .i64 ee.val) := hcell 3 _ rfl
       obtain ⟨c', hs', hrest⟩ : ∃ c', unE i O c ee = some c' ∧ unR i O c' (evs.drop (k + 1)) = some cF := by
        cases hq : unE i O c ee with
        | none => rw [hq] at hpn; cases hpn
        | some s' => rw [hq] at hpn; exact ⟨s', rfl, hpn⟩
       have f5 := unE_some hs'
       have HRS := hidden hrest
       clear hcell hee hdr
       obtain ⟨ek, ej, et, ew⟩ := ee
       simp only at e0 e1 e2 e3 f5
       obtain ⟨X2, hX2⟩ : ∃ X2 : World, X2 = wr.alloc (.cells #[.int .i64 ek, .int .i64 ej, .int .i64 et, .int .i64 ew] 69 (0, 0)) := ⟨_, rfl⟩
       obtain ⟨xb, hxb⟩ : ∃ xb, xb = wr.heap.size := ⟨_, rfl⟩
       have hbX2 : Below wr.heap.size wr X2 := by rw [hX2]; exact (Below.refl _ _).alloc (Nat.le_refl _) _
       have hkX2 : Blk X2 xb #[.int .i64 ek, .int .i64 ej, .int .i64 et, .int .i64 ew] 69 := by rw [hX2, hxb]; exact blk_new wr _ _
       have hB2 := HBK.out.trans (hbX2.mono HBK.out.size)
       have HB2 := hidden hB2
       have z1 : X2.cell? ⟨ob, 1, none⟩ = some (.slice oa on oc) := (hB2.cell (p := ⟨ob, 1, none⟩) hol).trans (HKX.out.cell 1 _ rfl)
       have a0 : X2.cell? ⟨xb, 0, none⟩ = some (.int .i64 ek) := hkX2.cell 0 _ rfl
       have a1 : X2.cell? ⟨xb, 1, none⟩ = some (.int .i64 ej) := hkX2.cell 1 _ rfl
       have a3 : X2.cell? ⟨xb, 3, none⟩ = some (.int .i64 ew) := hkX2.cell 3 _ rfl
       have hxl := hkX2.lt
       have hol2 : ob < X2.heap.size := Nat.lt_of_lt_of_le hol hB2.size
       have HX2 := hidden hX2; have HXB := hidden hxb
       clear hX2 hxb hbX2 hkX2 hpn hrow hcc hs' hrest HBK HPN hB2
       go_upto_region 22 with fail
       rw [← HX2.out, ← HXB.out]
       clear e0 e1 e2 e3
       rcases f5 with ⟨f6, rfl⟩ | ⟨rfl, f6⟩
       ·have y6 : (ej != (i : Int)) = true := by simpa using f6
        clear f6
        go_wp2_with fail
        go_roundw
        case rel => exact ⟨k + 1, c', by omega, hc, rfl, by go_num, HRS, HB2⟩
        case measure => simp [intOf]; omega
       ·rcases f6 with ⟨rfl, f7, rfl⟩ | ⟨rfl, f7, rfl, rfl⟩ | ⟨f7, f8, rfl⟩
        ·have hcl : c < O.length := (List.getElem?_eq_some_iff.1 f7).1
         have hcn : c < on := by rw [HON.out]; exact hcl
         have hci : (c : Int) < (on : Int) := by omega
         have hcd : decide (on ≤ c) = false := decide_eq_false (by omega)
         have hrowO := ownsRow_chg HOR.out (Chg.ofBelow (S := fun _ => False) HB2.out) (fun _ _ => id)
         obtain ⟨og, ocap, hov, _, hogl, _, _, hocc⟩ := row_cells hrowO (by omega)
         simp only [Value.slice.injEq] at hov
         obtain ⟨rfl, -, rfl⟩ := hov
         have b0 : X2.cell? ⟨og, c, none⟩ = some (.int .i64 ew) := hocc c _ (by simp [ints, f7])
         clear hrowO hocc f7 hcl
         go_upto_region 24 with fail
         go_quiet (fail)
         have hdw : Below X2.heap.size X2 (X2.drewN nq) := ⟨rfl, rfl, rfl, Nat.le_refl _, fun _ _ => rfl⟩
         have HB3 := hidden (HB2.out.trans (hdw.mono HB2.out.size))
         clear hdw
         have a0' : (X2.drewN nq).cell? ⟨xb, 0, none⟩ = some (.int .i64 3) := a0
         go_wp2_with fail
         go_roundw
         case rel => exact ⟨k + 1, c + 1, by omega, by omega, by go_num, by go_num, HRS, HB3⟩
         case measure => simp [intOf]; omega
        ·have hco : (c : Int) = (on : Int) := by rw [HON.out, f7]
         have hcb : ((c : Int) != (on : Int)) = false := by simp [hco]
         clear f7
         go_wp2_with fail
         go_roundw
         case rel => exact ⟨k + 1, 0, by omega, Nat.zero_le _, rfl, by go_num, HRS, HB2⟩
         case measure => simp [intOf]; omega
        ·have y7 : (ek == 3) = false := by simpa using f7
         have y8 : (ek == 2) = false := by simpa using f8
         clear f7 f8
         go_wp2_with fail
         go_roundw
         case rel => exact ⟨k + 1, c', by omega, hc, rfl, by go_num, HRS, HB2⟩
         case measure => simp [intOf]; omega
      ·obtain rfl : k = en := by omega
       have hji : ¬ (k : Int) < (k : Int) := by omega
       have HBF := hidden (HBX.out.trans (HBK.out.mono HBX.out.size))
       go_wp2_with fail
       go_roundw
       case rel => exact ⟨i + 1, by omega, by omega⟩
       case measure => simp [intOf]; omega
    ·obtain rfl : i = vn := by omega
     have hji : ¬ (i : Int) < (i : Int) := by omega
     have HBF := hidden (HB06.out.trans (HB.out.mono HB06.out.size))
     go_wp2_with fail
     go_ret
     exact ⟨rfl, HBF.out⟩
  ·have hEK := HAE.out
   rw [m3] at hEK
   obtain ⟨rfl, rfl⟩ : E = 11 ∧ K = kk := by simpa [eq_comm] using hEK
   obtain ⟨rfl, rfl, rfl⟩ := HER2.out (by decide)
   have htk : ∀ j, j < vn → wrongT ws3 (tl.getD j default) = 0 ∧ 1 ≤ (findI ws3 (tl.getD j default).word).1.steps ∧ (findI ws3 (tl.getD j default).word).1.steps ≤ 500 ∧ (findI ws3 (tl.getD j default).word).1.steps ≤ (tl.getD j default).dl := fun j hj => by
    have hjl : j < tl.length := by omega
    have e : tl.getD j default = tl[j] := by simp [hjl]
    rw [e]
    exact tk_right hKS.alk (HTM6.out.ok tl[j] (List.getElem_mem hjl))
   have HLA := hidden (keep_late hKS hTs6 hvn hv0 t2 (by omega) K (by omega) (by rw [hvn]; exact m4) (fun j hj => by have := htk j hj; omega) (fun j hj => by
    have := htk j hj
    obtain ⟨_, ⟨_, q2, q3, q4, _⟩, _⟩ := wrong_fits this.1
    omega))
   rw [hvn, decide_eq_true m5, ← hvn] at HLA
   clear hEK m1 m2 m3 m4 m5 hTs hTs6 hKS hvn htk
   go_wp2_with fail
   refine HLA.out.mono ?_
   rintro e w7 ⟨rfl, hb7⟩
   have HB07 := hidden (HB06.out.trans (hb7.mono HB06.out.size))
   clear hb7 HLA
   go_wp2_with fail
   go_ret
   exact ⟨rfl, HB07.out⟩
end Go.Proofs.YtcphhbofjkenaaaGreatDoor
