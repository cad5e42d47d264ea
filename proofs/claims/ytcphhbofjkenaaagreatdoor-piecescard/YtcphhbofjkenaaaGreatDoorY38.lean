import Derived.BigQuiet
import Derived.Test.YtcphhbofjkenaaaGreatDoorK21
import Derived.Test.YtcphhbofjkenaaaGreatDoorK35
import Derived.Test.YtcphhbofjkenaaaGreatDoorY35

namespace Go.Proofs.YtcphhbofjkenaaaGreatDoor
open Go Go.RowKit
set_option linter.unusedVariables false
set_option linter.unusedSimpArgs false
attribute [local go_sem] quietG

end Go.Proofs.YtcphhbofjkenaaaGreatDoor

namespace Go.Proofs.YtcphhbofjkenaaaGreatDoor
open Go Go.RowKit
set_option linter.unusedVariables false
set_option linter.unusedSimpArgs false
attribute [local go_sem] quietG

theorem few_words {s : ByteArray} (ht : TextOk s) (hc : s.data.toList.count 59 ≤ 4) (hi : LInv (loadR s [] 0 0 []).2.1 (loadR s [] 0 0 []).2.2.1 (loadR s [] 0 0 []).2.2.2.1 (loadR s [] 0 0 []).2.2.2.2) : (loadR s [] 0 0 []).2.1.length ≠ 40 := by
  have hb : badF s s.size 0 = none := bad_ascii (fun i hi => (ht.bytes i hi).2) _ _
  have hv := hi.v1
  have e : loadR s [] 0 0 [] = loadP s (s.size + 1) 0 [] 0 0 [] := by unfold loadR; rw [hb]
  rw [e] at hv ⊢
  have := loadP_words (fun i hi => (ht.bytes i hi).1) (s.size + 1) 0 [] 0 0 [] (Nat.zero_le _)
  rw [semis_all] at this
  simp only [List.length_nil] at this
  omega
theorem bad_word_err (t : ByteArray) (es : List PE) (nt : Int) (code : List Int) : (wordP es nt code (badT ++ t) 1).1.1 ≠ 0 := by
  unfold wordP
  rw [bad1]
  simp only
  split
  · obtain ⟨x, h1, h2⟩ := stepP_one (es := es) (nt := nt) (tk := 2 + 1) (dc := code) (b := PB.first) (r := []) (kn := Inf.zero)
    rw [defP, bad5]
    simp only
    rw [h2]
    simp only [if_true]
    obtain ⟨n, hn⟩ : ∃ n, n = (badT ++ t).size := ⟨_, rfl⟩
    rw [← hn, show n + 1 = (n + 1 - 1) + 1 by omega, defP, bad7]
    simp only
    rw [stepP_loop (b := x) (by rw [h1]; rfl)]
    simp only
    rw [if_neg (by decide)]
    exact (by decide : (5 : Int) ≠ 0)
  · rename_i h
    exact h

theorem forth_loadBad {w : World} {bb : Nat} {ev cv : Value} {es : List PE} {nv nt : Int} {code : List Int} (t : ByteArray) (h : PSys w bb ev cv es nv nt code) (ht : Tab w) (hs : t.size ≤ 140737488351232) (hi : LInv es nv nt code) :
    Calls Tryz.prog 24 #[.pointer (some ⟨bb, 0, none⟩), .string (badT ++ t)] w (LoadPost w bb ev cv (loadR (badT ++ t) es nv nt code)) := by
  refine forth_loadB _ h (book_loadOnce _ h ht (by rw [bad_size]; omega) hi (by rw [bad0]; decide +kernel) (by rw [bad0]; decide +kernel) fun _ => ?_)
  rw [bad0]
  dsimp only
  have hsz := bad_size t
  have e1 := hi.t1; have e2 := hi.c; have e3 := hi.l
  refine ⟨bad_word_err t es nt code, fun W rb hb => book_loadWordP hb (by omega) (by omega) (by omega) hi.w hi.t0 (by omega) (by omega) (fun b q _ st _ => (b = 5 ∧ q = 0 ∧ st = [PB.first]) ∨ (b = 7 ∧ q = 1 ∧ ∃ x r, st = x :: r ∧ x.opener = 34)) (by rw [bad1]; decide +kernel) (fun _ => by rw [bad1]; exact Or.inl ⟨rfl, rfl, rfl⟩) (fun b q dc st kn g => by rcases g with g | g <;> omega) fun b q dc b0 r0 kn _ g => ?_⟩
  rcases g with ⟨rfl, rfl, g⟩ | ⟨rfl, rfl, x, r, g, go⟩
  · rw [bad5, g]
    refine ⟨by decide +kernel, fun T hT _ => ?_⟩
    obtain ⟨x, h1, h2⟩ := stepP_one (es := es) (nt := nt) (tk := 2 + ((0 : Nat) : Int) + 1) (dc := dc) (b := PB.first) (r := []) (kn := kn)
    rw [hT, h2]
    exact Or.inr ⟨rfl, rfl, x, [], rfl, by rw [h1]; rfl⟩
  · rw [bad7, g]
    refine ⟨by decide +kernel, fun T hT h0 => ?_⟩
    rw [hT, stepP_loop go] at h0
    cases h0

set_option maxRecDepth 100000 in
set_option maxHeartbeats 16000000 in
theorem keep_pieces {B : Nat} (w : World) (ht : Tab w) (a1 : Option Addr) (n1 c1 : Nat) (l1 : List Int) (z : Int) (t : ByteArray) (h1 : InsAt B w (.slice a1 n1 c1) l1) (i1 : ∀ x ∈ l1, I64 x) (iz : I64 z) (hB : B ≤ w.heap.size) (e1 : l1.length ≤ 17592186043904) (et : t.size ≤ 140737488351232) :
    Calls Tryz.prog 6 #[.slice a1 n1 c1, .int .i64 z, .string t] w fun e w' => e = .returned (.bool true) ∧ Below w.heap.size w w' := by
  have HT := hidden ht
  have HM := hidden (mk_made w a1 n1 c1 l1 false h1 i1 hB e1)
  have HZ := hidden iz
  clear ht h1 i1 iz
  go_enter Tryz.func6, Tryz.ntmps6
  go_wp2_with fail
  refine HM.out.mono ?_
  rintro e w1 ⟨mb, i, s, k, v, rfl, hmb, k1, k4, hsz, hto, hcn, hbl, hb1⟩
  have HL := hidden (keep_loaded2 w1 mb hbl (HT.out.below hb1) hsz)
  have HBL := hidden hbl; have HB1 := hidden hb1; have HTO := hidden hto; have HCN := hidden hcn
  have hml1 := hbl.lt
  clear hbl hb1 HM hto hcn
  go_wp2_with fail
  refine HL.out.mono ?_
  rintro e w2 ⟨aa, eva, cva, ws, rfl, haa, ⟨hA, hAk, hWs⟩, hb2⟩
  have HN := hidden (forth_new w2 hA.tab)
  have HFEW := hidden (few_words HTO.out HCN.out hA.inv)
  obtain ⟨R, hR⟩ : ∃ R, R = (loadR s [] 0 0 []).2 := ⟨_, rfl⟩
  have hfew : R.1.length ≠ 40 := by rw [hR]; exact HFEW.out
  rw [← hR] at hA hAk
  obtain ⟨okb, hok⟩ : ∃ o : Int, o = (loadR s [] 0 0 []).1.1 := ⟨_, rfl⟩
  rw [← hok]
  have HBL2 := hidden (HBL.out.sub hb2 HBL.out.lt)
  have HA2 := hidden hA; have HAK := hidden hAk; have HWS := hidden hWs; have HRR := hidden hR; have HOK := hidden hok; have HFW := hidden hfew
  have HB2 := hidden (HB1.out.trans (hb2.mono HB1.out.size))
  have hw12 := hb2.size; have hw01 := HB1.out.size
  clear hA hAk hWs hb2 HL HBL HB1 HFEW hfew hR hok
  go_wp2_with fail
  refine HN.out.mono ?_
  rintro e w3 ⟨bb, hbb, rfl, hpb, hb3⟩
  have HA3 := hidden (HA2.out.below hb3)
  have HBL3 := hidden (HBL2.out.sub hb3 HBL2.out.lt)
  have HB3 := hidden (HB2.out.trans (hb3.mono HB2.out.size))
  have hb3l : LSys w2.heap.size w3 bb (.slice none 0 0) (.slice none 0 0) ([], 0, 0, []) := ⟨hpb, LInv.zero, HA3.out.tab, hbb, (fun k hk => by simp [Value.ownBlock] at hk), fun k hk => by simp [Value.ownBlock] at hk⟩
  have HBB3 := hidden hb3l
  have HLD := hidden (forth_loadBad t HA3.out.sys HA3.out.tab et HA3.out.inv)
  have hlb := load_bad t R.1 R.2.1 R.2.2.1 R.2.2.2 HFW.out
  have hw23 := hb3.size
  have HLO : Hid (∀ k, touch aa eva cva k → w1.heap.size ≤ k ∧ k < w2.heap.size) := hidden fun k hk => ⟨HA2.out.touch_lo hk, HA2.out.touch_lt hk⟩
  clear hpb hb3 hb3l HN HA2 HBL2 HB2
  go_wp2_with fail
  refine (show Calls _ _ #[.pointer (some ⟨aa, 0, none⟩), .string (⟨#[58, 32, 98, 97, 100, 32, 49, 32, 108, 111, 111, 112, 32]⟩ ++ t)] _ _ from HLD.out).mono ?_
  intro e w4 hpost
  obtain ⟨hh1, ⟨eva4, cva4, hA4, htch⟩, hch4⟩ := HA3.out.load (by omega) hpost
  have hR4 : (loadR (badT ++ t) R.1 R.2.1 R.2.2.1 R.2.2.2).2 = R := by
    rcases hlb with ⟨k, _, e⟩ | e
    · rw [e]
    · rw [e]
  rw [hR4] at hA4
  subst hh1
  obtain ⟨r1, hr1⟩ : ∃ r, r = (loadR (badT ++ t) R.1 R.2.1 R.2.2.1 R.2.2.2).1.1 := ⟨_, rfl⟩
  obtain ⟨r2, hr2⟩ : ∃ r, r = (loadR (badT ++ t) R.1 R.2.1 R.2.2.1 R.2.2.2).1.2 := ⟨_, rfl⟩
  rw [← hr1, ← hr2]
  have hcs : ((r1 != 5) = false ∧ (r2 != 8) = false) ∨ ((r1 != 5) = true ∧ (r1 != 2) = false ∧ 13 ≤ r2) := by
    rcases hlb with ⟨k, hk, e⟩ | e
    · right; rw [hr1, hr2, e]; exact ⟨rfl, rfl, by simp only; omega⟩
    · left; rw [hr1, hr2, e]; exact ⟨rfl, rfl⟩
  have hlo := HLO.out
  have HBL4 := hidden (HBL3.out.chg hch4 (fun e => by have := (hlo _ e).1; omega))
  have hbb3 := HBB3.out.sys.blk.lt
  have HBB4 := hidden (HBB3.out.chg hch4 hA4.tab (fun k hk e => by have := HBB3.out.touch_lo hk; have := (hlo _ e).2; omega))
  have HB4 := hidden (HB3.out.trans (hch4.toBelow HB3.out.size (fun b hb e => by have := (hlo _ e).1; omega)))
  have HA4 := hidden hA4
  have HTC : Hid (∀ k, touch aa eva4 cva4 k → k < w2.heap.size ∨ w3.heap.size ≤ k) := hidden fun k hk => (htch k hk).imp (fun e => (hlo k e).2) id
  have c2 : w4.cell? ⟨mb, 2, none⟩ = some (.string s) := HBL4.out.cell 2 _ rfl
  have hml4 := HBL4.out.lt
  have HCT := hidden (keep_cut s z w4 hsz HZ.out)
  have hw34 := hch4.size
  clear hpost hlb hA4 htch hch4 hR4 hr1 hr2 hlo HLD HA3 HBL3 HB3 HBB3
  have hok2 : okb = 0 ∨ (okb == 0) = false := by
    by_cases h : okb = 0
    · exact Or.inl h
    · exact Or.inr (by simpa using h)
  rcases hok2 with hok | hok
  case inr =>
    rcases hcs with ⟨t1, t2⟩ | ⟨t1, t2, t3⟩
    · go_wp2_with fail
      go_ret
      exact ⟨rfl, HB4.out⟩
    · go_wp2_with fail
      go_ret
      exact ⟨rfl, HB4.out⟩
  have HTWO : Hid (∀ x : Int, CutP s x → (loadR (s.extract 0 x.toNat) [] 0 0 []).1.1 = 0 ∧ loadR (s.extract x.toNat s.size) (loadR (s.extract 0 x.toNat) [] 0 0 []).2.1 (loadR (s.extract 0 x.toNat) [] 0 0 []).2.2.1 (loadR (s.extract 0 x.toNat) [] 0 0 []).2.2.2.1 (loadR (s.extract 0 x.toNat) [] 0 0 []).2.2.2.2 = loadR s [] 0 0 []) := hidden fun x hx => pieces_two HTO.out hx (by rw [← HOK.out]; exact hok)
  have hok0 : (okb == 0) = true := by simp [hok]
  clear hok
  rcases hcs with ⟨t1, t2⟩ | ⟨t1, t2, t3⟩
  all_goals
    go_wp2_with fail
    refine HCT.out.mono ?_
    rintro e w5 ⟨x, rfl, hcp, hb5⟩
    obtain ⟨tw1, tw2⟩ := HTWO.out x hcp
    obtain ⟨m, hxm, hms, _⟩ := hcp
    have hx0 : 0 ≤ x := by omega
    have hxs : x ≤ (s.size : Int) := by omega
    obtain ⟨P, hP⟩ : ∃ P, P = loadR (s.extract 0 x.toNat) [] 0 0 [] := ⟨_, rfl⟩
    rw [← hP] at tw1 tw2
    have HTW2 := hidden tw2
    have HA5 := hidden (HA4.out.below hb5); have HBB5 := hidden (HBB4.out.below hb5); have HBL5 := hidden (HBL4.out.sub hb5 HBL4.out.lt)
    have HB5 := hidden (HB4.out.trans (hb5.mono HB4.out.size))
    have c2' : w5.cell? ⟨mb, 2, none⟩ = some (.string s) := HBL5.out.cell 2 _ rfl
    have hml5 := HBL5.out.lt
    have hsz1 : (s.extract 0 x.toNat).size ≤ 1100000 := by rw [ByteArray.size_extract]; omega
    have hsz2 : (s.extract x.toNat s.size).size ≤ 1100000 := by rw [ByteArray.size_extract]; omega
    have hL1 := forth_load (s.extract 0 x.toNat) HBB5.out.sys HBB5.out.tab hsz1 HBB5.out.inv
    have hw45 := hb5.size
    have HTL : Hid (∀ k, touch aa eva4 cva4 k → k < w5.heap.size) := hidden fun k hk => HA5.out.touch_lt hk
    have HL1 := hidden hL1
    have HSZ2 := hidden hsz2
    have HHP := hidden hP
    clear hL1 hxm hms tw2 hb5 HTWO HCT HA4 HBB4 HBL4 HB4 c2 hml4 hsz1 hsz2 hP t1 t2
    go_wp2_with fail
    refine HL1.out.mono ?_
    intro e w6 hpost
    obtain ⟨hh1, ⟨evb, cvb, hB6, htch6⟩, hch6⟩ := HBB5.out.load (by omega) hpost
    simp only at hh1 hB6
    rw [← HHP.out] at hh1 hB6
    rw [tw1] at hh1
    subst hh1
    generalize P.1.2 = r3
    have hbo : ∀ k, touch bb (.slice none 0 0) (.slice none 0 0) k → k = bb := fun k hk => by
      rcases hk with e | e | e
      · exact e
      · simp [Value.ownBlock] at e
      · simp [Value.ownBlock] at e
    have HA6 := hidden (HA5.out.chg hch6 hB6.tab (fun k hk e => by have := HTC.out k hk; have := hbo k e; omega))
    have HBL6 := hidden (HBL5.out.chg hch6 (fun e => by have := hbo _ e; omega))
    have HB6 := hidden (HB5.out.trans (hch6.toBelow HB5.out.size (fun b hb e => by have := hbo _ e; omega)))
    have HBT : Hid (∀ k, touch bb evb cvb k → k = bb ∨ w5.heap.size ≤ k) := hidden fun k hk => (htch6 k hk).imp (hbo k) id
    have HBB6 := hidden hB6
    have hL2 := forth_load (s.extract x.toNat s.size) hB6.sys hB6.tab HSZ2.out hB6.inv
    have HL2 := hidden hL2
    have c2'' : w6.cell? ⟨mb, 2, none⟩ = some (.string s) := HBL6.out.cell 2 _ rfl
    have hml6 := HBL6.out.lt
    have hw56 := hch6.size
    clear hpost hB6 htch6 hch6 hbo hL2 HL1 HA5 HBB5 HBL5 HB5 c2' hml5 tw1
    go_wp2_with fail
    refine HL2.out.mono ?_
    intro e w7 hpost
    obtain ⟨hh1, ⟨evb7, cvb7, hB7, _⟩, hch7⟩ := HBB6.out.load (by omega) hpost
    rw [HTW2.out] at hh1 hB7
    rw [← HOK.out] at hh1
    rw [← HRR.out] at hB7
    subst hh1
    generalize (loadR s [] 0 0 []).1.2 = r4
    have HA7 := hidden (HA6.out.chg hch7 hB7.tab (fun k hk e => by have := HTC.out k hk; have := HTL.out k hk; have := HBT.out k e; omega))
    have HB7 := hidden (HB6.out.trans (hch7.toBelow HB6.out.size (fun b hb e => by have := HBT.out b e; omega)))
    have HSW := hidden (keep_sameWords (aa := aa) (bb := bb) (R := R) (ws := ws) ⟨⟨_, _, HA7.out.sys⟩, HA7.out.inv, HAK.out, HWS.out, HA7.out.tab⟩ ⟨⟨_, _, hB7.sys⟩, hB7.inv, HAK.out, HWS.out, hB7.tab⟩)
    clear hpost hB7 hch7 HL2 HA6 HBB6 HBL6 HB6 c2'' hml6
    go_wp2_with fail
    refine HSW.out.mono ?_
    rintro e w8 ⟨rfl, hb8⟩
    have HB8 := hidden (HB7.out.trans (hb8.mono HB7.out.size))
    clear hb8 HSW HA7 HB7
    go_wp2_with fail
    go_ret
    exact ⟨rfl, HB8.out⟩

end Go.Proofs.YtcphhbofjkenaaaGreatDoor
