import Derived.Test.YtcphhbofjkenaaaGreatDoorU38
import Derived.Test.YtcphhbofjkenaaaGreatDoorT02
import Derived.Test.YtcphhbofjkenaaaGreatDoorT34
import Derived.Test.YtcphhbofjkenaaaGreatDoorT35
import Derived.Test.YtcphhbofjkenaaaGreatDoorT37
namespace Go.Proofs.YtcphhbofjkenaaaGreatDoor
open Go Go.RowKit
set_option linter.unusedVariables false
set_option linter.unusedSimpArgs false
attribute [local go_sem] quietG
structure PunOk (ws : List RW) (l : List TK) (n : Nat) (h : Int) (evs : List EV) (i : Nat) (C R : Int) (rk : Nat) : Prop where
  er : (findI ws (l.getD i default).word).2 = 0
  st : (findI ws (l.getD i default).word).1.steps = C
  c1 : 1 ≤ C ∧ C ≤ R ∧ R ≤ (l.getD i default).dl ∧ (l.getD i default).dl ≤ 1000000
  rl : rk < n
  fr : decide (rk = 0) = (decide (R = C) && firstT l i n 0)
  pn : ∃ s, pnR i n (l.getD i default).per R h ((l.getD i default).off, -1) evs = some s ∧ h ≤ s.1 ∧ ¬ (0 ≤ s.2 ∧ s.2 + R ≤ h)
  per : 1 ≤ (l.getD i default).per ∧ (l.getD i default).per ≤ 1000000
  off : 0 ≤ (l.getD i default).off ∧ (l.getD i default).off ≤ 1000000
theorem pnE_some {i n : Nat} {per R h : Int} {s s' : Int × Int} {e : EV} (hp : pnE i n per R h s e = some s') : 0 ≤ e.tick ∧ e.tick < h ∧ 0 ≤ e.task ∧ e.task < n ∧ ((e.task ≠ i ∧ s' = s) ∨ (e.task = i ∧ ((e.kind = 1 ∧ e.tick = s.1 ∧ s.2 < 0 ∧ s' = (s.1 + per, e.tick)) ∨ (e.kind = 2 ∧ 0 ≤ s.2 ∧ e.tick < s.2 + R ∧ (e.val = 0 ∨ e.val = 3) ∧ s' = (s.1, -1)) ∨ (e.kind ≠ 1 ∧ e.kind ≠ 2 ∧ s' = s)))) := by
  unfold pnE at hp
  split at hp
  · cases hp
  · rename_i h0
    refine ⟨by omega, by omega, by omega, by omega, ?_⟩
    split at hp
    · rename_i h1
      exact Or.inl ⟨h1, (Option.some.inj hp).symm⟩
    · rename_i h1
      refine Or.inr ⟨by omega, ?_⟩
      split at hp
      · rename_i h2
        split at hp
        · cases hp
        · rename_i h3
          exact Or.inl ⟨h2, by omega, by omega, (Option.some.inj hp).symm⟩
      · rename_i h2
        split at hp
        · rename_i h3
          split at hp
          · cases hp
          · rename_i h4
            exact Or.inr (Or.inl ⟨h3, by omega, by omega, by omega, (Option.some.inj hp).symm⟩)
        · rename_i h3
          exact Or.inr (Or.inr ⟨h2, h3, (Option.some.inj hp).symm⟩)
set_option maxRecDepth 100000 in
set_option maxHeartbeats 3000000 in
theorem keep_punctual {w : World} {bb tg n tc pg pc : Nat} {R : List PE × Int × Int × List Int} {ws : List RW} {l : List TK} {Cf Rf : Nat → Int} {rf : Nat → Nat} {B : Nat} {ea : Option Addr} {en ec : Nat} {evs : List EV} {h : Int} (hs : KSys w bb R ws) (ht : TsAt w tg l) (hn : n = l.length) (hnc : n ≤ tc) (h8 : n ≤ 8) (hpc : n ≤ pc) (hpg : pg < w.heap.size)
    (hp : ∀ k, k < n → w.cell? ⟨pg, k * 3, none⟩ = some (.int .i64 (Cf k)) ∧ w.cell? ⟨pg, k * 3 + 1, none⟩ = some (.int .i64 (rf k : Int)) ∧ w.cell? ⟨pg, k * 3 + 2, none⟩ = some (.int .i64 (Rf k)))
    (he : ERow B w (.slice ea en ec) evs) (hel : evs.length ≤ 1000000) (hh : 0 ≤ h) (hh2 : h ≤ 100000) (hok : ∀ i, i < n → PunOk ws l n h evs i (Cf i) (Rf i) (rf i)) :
    Calls Tryz.prog 31 #[.pointer (some ⟨bb, 0, none⟩), .slice (some ⟨tg, 0, none⟩) n tc, .slice (some ⟨pg, 0, none⟩) n pc, .slice ea en ec, .int .i64 h] w fun e w' => e = .returned (.bool true) ∧ Below w.heap.size w w' := by
  have hen : en = evs.length := by
    obtain ⟨ad, cap, e, _⟩ := row_shape he
    simp at e; exact e.2.1
  have heni : (en : Int) ≤ 1000000 := by omega
  have HS := hidden hs; have HT := hidden ht; have HN := hidden hn; have HP := hidden hp; have HE := hidden he; have HOK := hidden hok; have HEN := hidden hen
  clear hs ht hn hp he hok hen hel
  go_enter Tryz.func31, Tryz.ntmps31
  go_wp2_with fail
  go_loopw [11] (fun kv wr => ∃ i : Nat, i ≤ n ∧ kv = .int .i64 i ∧ Hid (Below w.heap.size w wr)) (fun kv _ => n - (intOf kv).toNat)
  case atStart => exact ⟨0, Nat.zero_le _, rfl, hidden (Below.refl _ _)⟩
  case round =>
    obtain ⟨i, hi, rfl, HB⟩ := hrel
    by_cases hlt : i < n
    · have hii : (i : Int) < (n : Int) := by omega
      have hO := HOK.out i hlt
      have hPi := HP.out i hlt
      generalize Cf i = C at hO hPi
      generalize Rf i = Rr at hO hPi
      generalize rf i = rk at hO hPi
      obtain ⟨o1, o2, ⟨o3, o4, o5, o6⟩, o7, o8, o9, ⟨oa, ob⟩, ⟨oc, od⟩⟩ := hO
      obtain ⟨p0, p1, p2⟩ := hPi
      have hTr := HT.out.below HB.out
      obtain ⟨c0, c1, c2, c3⟩ := hTr.get (k := i) (by rw [← HN.out]; exact hlt)
      have HFI := hidden (fun (w' : World) (hb : Below w.heap.size w w') => keep_first (HT.out.below hb) HN.out hnc h8 i hlt)
      obtain ⟨t, htt⟩ : ∃ t, t = l.getD i default := ⟨_, rfl⟩
      rw [← htt] at c0 c1 c2 c3 o1 o2 o5 o6 o9 oa ob oc od
      have hpr := fun (a : Nat) => HB.out.cell (p := ⟨pg, a, none⟩) hpg
      rw [← hpr] at p0 p1 p2
      have hS := HS.out.below HB.out
      obtain ⟨ev, cv, hsys⟩ := hS.sys
      have HFD := hidden (forth_find t.word hsys (by have := hS.inv.l; omega))
      rw [find_eq hS.alk.toAlike, o1] at HFD
      obtain ⟨nd, net, hg, st, str, hI⟩ : ∃ nd net hg st str, (findI ws t.word).1 = ⟨nd, net, hg, st, str⟩ := ⟨_, _, _, _, _, rfl⟩
      rw [hI] at HFD o2
      simp only [Inf.val] at HFD o2
      subst o2
      have HTR := hidden hTr; have HO8 := hidden o8; have HO9 := hidden o9
      have htgr := hTr.1
      have hpgr : pg < wr.heap.size := Nat.lt_of_lt_of_le hpg HB.out.size
      clear hS hsys hI o1 o8 o9 hTr htt hpr
      go_wp2_with fail
      refine HFD.out.mono ?_
      rintro e w3 ⟨rfl, hb3⟩
      obtain ⟨X, hX⟩ : ∃ X : World, X = (w3.alloc (.cells #[.int .i64 nd, .int .i64 net, .int .i64 hg, .int .i64 st, .bool str] 36 (0, 0))).alloc (.cells #[.int .i64 st, .int .i64 (rk : Int), .int .i64 Rr] 133 (0, 0)) := ⟨_, rfl⟩
      obtain ⟨kb, hkb⟩ : ∃ kb, kb = w3.heap.size := ⟨_, rfl⟩
      obtain ⟨qb, hqb⟩ : ∃ qb, qb = w3.heap.size + 1 := ⟨_, rfl⟩
      have hbX : Below w3.heap.size w3 X := by rw [hX]; exact ((Below.refl _ _).alloc (Nat.le_refl _) _).alloc (by simp) _
      have hkX : Blk X kb #[.int .i64 nd, .int .i64 net, .int .i64 hg, .int .i64 st, .bool str] 36 := by rw [hX, hkb]; exact (blk_new w3 _ _).alloc _
      have hqX : Blk X qb #[.int .i64 st, .int .i64 (rk : Int), .int .i64 Rr] 133 := by rw [hX, hqb]; exact (blk_new (w3.alloc _) _ _ : Blk _ ((w3.alloc (.cells #[.int .i64 nd, .int .i64 net, .int .i64 hg, .int .i64 st, .bool str] 36 (0, 0))).heap.size) _ _) |> fun h => by simpa using h
      have hbr : Below wr.heap.size wr X := hb3.trans (hbX.mono hb3.size)
      have HBX := hidden (HB.out.trans (hbr.mono HB.out.size))
      have hkl := hkX.lt
      have hql := hqX.lt
      have x1 : X.cell? ⟨tg, i * 4 + 1, none⟩ = some (.int .i64 t.per) := (hbr.cell (p := ⟨tg, i * 4 + 1, none⟩) htgr).trans c1
      have x2 : X.cell? ⟨tg, i * 4 + 2, none⟩ = some (.int .i64 t.dl) := (hbr.cell (p := ⟨tg, i * 4 + 2, none⟩) htgr).trans c2
      have x3 : X.cell? ⟨tg, i * 4 + 3, none⟩ = some (.int .i64 t.off) := (hbr.cell (p := ⟨tg, i * 4 + 3, none⟩) htgr).trans c3
      have htX : tg < X.heap.size := Nat.lt_of_lt_of_le htgr hbr.size
      have q30 : w3.cell? ⟨pg, i * 3, none⟩ = some (.int .i64 st) := (hb3.cell (p := ⟨pg, i * 3, none⟩) hpgr).trans p0
      have q31 : w3.cell? ⟨pg, i * 3 + 1, none⟩ = some (.int .i64 (rk : Int)) := (hb3.cell (p := ⟨pg, i * 3 + 1, none⟩) hpgr).trans p1
      have q32 : w3.cell? ⟨pg, i * 3 + 2, none⟩ = some (.int .i64 Rr) := (hb3.cell (p := ⟨pg, i * 3 + 2, none⟩) hpgr).trans p2
      have hpg3 : pg < w3.heap.size := Nat.lt_of_lt_of_le hpgr hb3.size
      have HX := hidden hX; have HKB := hidden hkb; have HQB := hidden hqb; have HKX := hidden hkX; have HQX := hidden hqX
      clear hb3 hX hkb hqb hbX hkX hqX hbr p0 p1 p2 c0 c1 c2 c3 HFD HTR
      go_upto_region 6 with fail
      rw [← HX.out, ← HQB.out, ← HKB.out]
      have hcase : (Rr = st ∧ firstT l i n 0 = true ∧ rk = 0) ∨ (Rr = st ∧ firstT l i n 0 = false ∧ rk ≠ 0) ∨ (Rr ≠ st ∧ rk ≠ 0) := by
        have := HO8.out
        by_cases r1 : Rr = st
        · rw [decide_eq_true r1, Bool.true_and] at this
          cases hF : firstT l i n 0 with
          | true => rw [hF] at this; exact Or.inl ⟨r1, rfl, of_decide_eq_true this⟩
          | false => rw [hF] at this; exact Or.inr (Or.inl ⟨r1, rfl, of_decide_eq_false this⟩)
        · rw [decide_eq_false r1, Bool.false_and] at this
          exact Or.inr (Or.inr ⟨r1, of_decide_eq_false this⟩)
      have g0 : ∀ u : {w' : World // Below X.heap.size X w'}, u.val.cell? ⟨qb, 0, none⟩ = some (.int .i64 st) := fun u => (u.property.cell (p := ⟨qb, 0, none⟩) hql).trans (HQX.out.cell 0 _ rfl)
      have g1 : ∀ u : {w' : World // Below X.heap.size X w'}, u.val.cell? ⟨qb, 1, none⟩ = some (.int .i64 (rk : Int)) := fun u => (u.property.cell (p := ⟨qb, 1, none⟩) hql).trans (HQX.out.cell 1 _ rfl)
      have g2 : ∀ u : {w' : World // Below X.heap.size X w'}, u.val.cell? ⟨qb, 2, none⟩ = some (.int .i64 Rr) := fun u => (u.property.cell (p := ⟨qb, 2, none⟩) hql).trans (HQX.out.cell 2 _ rfl)
      have g3 : ∀ u : {w' : World // Below X.heap.size X w'}, u.val.cell? ⟨kb, 3, none⟩ = some (.int .i64 st) := fun u => (u.property.cell (p := ⟨kb, 3, none⟩) hkl).trans (HKX.out.cell 3 _ rfl)
      have g4 : ∀ u : {w' : World // Below X.heap.size X w'}, u.val.cell? ⟨tg, i * 4 + 2, none⟩ = some (.int .i64 t.dl) := fun u => (u.property.cell (p := ⟨tg, i * 4 + 2, none⟩) htX).trans x2
      have hne : Nonempty {w' : World // Below X.heap.size X w'} := ⟨⟨X, Below.refl _ _⟩⟩
      have v1 : decide (Rr < st) = false := decide_eq_false (by omega)
      have v2 : decide (t.dl < Rr) = false := decide_eq_false (by omega)
      have v3 : decide (n ≤ rk) = false := decide_eq_false (by omega)
      have v4 : decide ((rk : Int) < 0) = false := decide_eq_false (by omega)
      clear q30 q31 q32
      go_cut [92] (fun s92 wx => s92 = .bool false ∧ Hid (Below X.heap.size X wx))
      case first =>
        refine wp_region_either (C := OneOf fun w' => Below X.heap.size X w') 53 (Te.row [0, 1, 2, 3, 4, 5, 6, 7, 8, 9, 10, 11, 12, 13, 14, 15, 16, 17, 18, 19, 20, 21, 22, 23, 24, 25, 26, 27, 28, 29, 30, 31, 32, 33, 34, 35, 36, 37, 38, 39, 40, 41, 42, 43, 44, 45, 46, 47, 48, 49] (.either 50 (.quiet 51 (.quiet 52 .fin)))) ⟨X.drew, (Below.refl _ X).drew⟩ (by kernel_rfl) (by kernel_rfl) rfl ?_
        simp only [Te.row]
        iterate 8 (refine wpE_step rfl (fun K hK => ?_); go_simp; refine hK _ ?_; clear hK K)
        as_aux_lemma =>
          iterate 8 (refine wpE_step rfl (fun K hK => ?_); go_simp; refine hK _ ?_; clear hK K)
          as_aux_lemma =>
            iterate 8 (refine wpE_step rfl (fun K hK => ?_); go_simp; refine hK _ ?_; clear hK K)
            as_aux_lemma =>
              iterate 8 (refine wpE_step rfl (fun K hK => ?_); go_simp; refine hK _ ?_; clear hK K)
              as_aux_lemma =>
                iterate 8 (refine wpE_step rfl (fun K hK => ?_); go_simp; refine hK _ ?_; clear hK K)
                as_aux_lemma =>
                  iterate 8 (refine wpE_step rfl (fun K hK => ?_); go_simp; refine hK _ ?_; clear hK K)
                  as_aux_lemma =>
                    rcases hcase with ⟨r1, r2, r3⟩ | ⟨r1, r2, r3⟩ | ⟨r1, r3⟩
                    case inl =>
                      have y1 : (Rr == st) = true := by simp [r1]
                      have y3 : ((rk : Int) == 0) = true := by simp [r3]
                      rw [r2] at HFI
                      clear r1 r2 r3
                      iterate 2 (refine wpE_step rfl (fun K hK => ?_); go_simp; refine hK _ ?_; clear hK K)
                      refine wpE_call (dOp_call1 rfl rfl 60 #[.slice (some ⟨tg, 0, none⟩) n tc, .int .i64 i] (by go_simp) ((HFI.out _ (HBX.out.trans ((Below.refl _ X).drew.mono HBX.out.size))).mono ?_))
                      rintro e W ⟨rfl, hbW0⟩
                      have hbW : Below X.heap.size X W := (Below.refl _ X).drew.trans hbW0
                      refine ⟨_, rfl, hbW, ?_⟩
                      iterate 2 (refine wpE_step rfl (fun K hK => ?_); go_simp; refine hK _ ?_; clear hK K)
                      refine wpE_fin ?_
                      intro w' hw'
                      rw [show w' = W from hw']
                      clear hw' w'
                      simp only [List.drop_succ_cons, List.drop_zero]
                      go_wp2_with fail
                      go_meet
                      exact ⟨rfl, hidden hbW⟩
                    case inr.inl =>
                      have y1 : (Rr == st) = true := by simp [r1]
                      have y3 : ((rk : Int) == 0) = false := by simpa using r3
                      rw [r2] at HFI
                      clear r1 r2 r3
                      iterate 2 (refine wpE_step rfl (fun K hK => ?_); go_simp; refine hK _ ?_; clear hK K)
                      refine wpE_call (dOp_call1 rfl rfl 60 #[.slice (some ⟨tg, 0, none⟩) n tc, .int .i64 i] (by go_simp) ((HFI.out _ (HBX.out.trans ((Below.refl _ X).drew.mono HBX.out.size))).mono ?_))
                      rintro e W ⟨rfl, hbW0⟩
                      have hbW : Below X.heap.size X W := (Below.refl _ X).drew.trans hbW0
                      refine ⟨_, rfl, hbW, ?_⟩
                      iterate 2 (refine wpE_step rfl (fun K hK => ?_); go_simp; refine hK _ ?_; clear hK K)
                      refine wpE_fin ?_
                      intro w' hw'
                      rw [show w' = W from hw']
                      clear hw' w'
                      simp only [List.drop_succ_cons, List.drop_zero]
                      go_wp2_with fail
                      go_meet
                      exact ⟨rfl, hidden hbW⟩
                    case inr.inr =>
                      have y1 : (Rr == st) = false := by simpa using r1
                      have y3 : ((rk : Int) == 0) = false := by simpa using r3
                      clear r1 r3
                      iterate 2 (refine wpE_step rfl (fun K hK => ?_); go_simp; refine hK _ ?_; clear hK K)
                      refine wpE_none rfl (fun K hK => ?_)
                      go_simp
                      refine hK _ ?_
                      clear hK K
                      obtain ⟨W, hW⟩ : ∃ W : World, W = X.drew := ⟨_, rfl⟩
                      have hbW : Below X.heap.size X W := by rw [hW]; exact (Below.refl _ X).drew
                      iterate 2 (refine wpE_step rfl (fun K hK => ?_); go_simp; refine hK _ ?_; clear hK K)
                      refine wpE_fin ?_
                      intro w' hw'
                      rw [show w' = W from hw'.trans hW.symm]
                      clear hw' w' hW
                      simp only [List.drop_succ_cons, List.drop_zero]
                      go_wp2_with fail
                      go_meet
                      exact ⟨rfl, hidden hbW⟩
      case rest =>
        obtain ⟨rfl, HBW⟩ := hcut
        have HBC := hidden (HBX.out.trans (HBW.out.mono HBX.out.size))
        have z3 : wc.cell? ⟨tg, i * 4 + 3, none⟩ = some (.int .i64 t.off) := (HBW.out.cell (p := ⟨tg, i * 4 + 3, none⟩) htX).trans x3
        have htc : tg < wc.heap.size := Nat.lt_of_lt_of_le htX HBW.out.size
        have HZ1 : Hid (∀ w', Below wc.heap.size wc w' → w'.cell? ⟨tg, i * 4 + 1, none⟩ = some (.int .i64 t.per) ∧ w'.cell? ⟨qb, 2, none⟩ = some (.int .i64 Rr)) := hidden fun w' hb => ⟨(hb.cell (p := ⟨tg, i * 4 + 1, none⟩) htc).trans ((HBW.out.cell (p := ⟨tg, i * 4 + 1, none⟩) htX).trans x1), (hb.cell (p := ⟨qb, 2, none⟩) (Nat.lt_of_lt_of_le hql HBW.out.size)).trans ((HBW.out.cell (p := ⟨qb, 2, none⟩) hql).trans (HQX.out.cell 2 _ rfl))⟩
        have hqc : qb < wc.heap.size := Nat.lt_of_lt_of_le hql HBW.out.size
        have HEC := hidden (ownsRow_chg HE.out (Chg.ofBelow (S := fun _ => False) HBC.out) (fun _ _ => id))
        obtain ⟨sF, hsF, hF1, hF2⟩ := HO9.out
        have HF1 := hidden hF1; have HF2 := hidden hF2
        have HPN0 : Hid (pnR i n t.per Rr h (t.off, -1) (evs.drop 0) = some sF) := hidden hsF
        clear hsF hF1 hF2 HO9 HO8 hcase g0 g1 g2 g3 g4 hne v1 v2 v3 v4 x1 x2 x3 HFI HKX HQX HX HKB HQB
        go_wp2_with fail
        go_loopw [15, 16, 17] (fun nv av kv wr => ∃ (k : Nat) (nx at_ : Int), k ≤ en ∧ nv = .int .i64 nx ∧ av = .int .i64 at_ ∧ kv = .int .i64 k ∧ Hid (pnR i n t.per Rr h (nx, at_) (evs.drop k) = some sF) ∧ (0 ≤ nx ∧ nx ≤ 3000000) ∧ (-1 ≤ at_ ∧ at_ ≤ 1000000) ∧ Hid (Below wc.heap.size wc wr)) (fun _ _ kv _ => en - (intOf kv).toNat)
        case atStart => exact ⟨0, t.off, -1, Nat.zero_le _, rfl, rfl, rfl, HPN0, ⟨oc, by omega⟩, ⟨by omega, by omega⟩, hidden (Below.refl _ _)⟩
        case round =>
          clear HPN0 z3
          obtain ⟨k, nx, at_, hk, rfl, rfl, rfl, HPN, hnx, hat, HBK⟩ := hrel
          by_cases hklt : k < en
          · have hki : (k : Int) < (en : Int) := by omega
            have hkl2 : k < evs.length := by rw [← HEN.out]; exact hklt
            obtain ⟨ee, hee⟩ : ∃ ee, ee = evs[k] := ⟨_, rfl⟩
            have hdr : evs.drop k = ee :: evs.drop (k + 1) := by rw [hee]; exact List.drop_eq_getElem_cons hkl2
            have hpn := HPN.out
            rw [hdr, pnR] at hpn
            have hrow := ownsRow_chg HEC.out (Chg.ofBelow (S := fun _ => False) HBK.out) (fun _ _ => id)
            obtain ⟨eg, ecap, hv, _, hgl, _, _, hcc⟩ := row_cells hrow (by omega)
            simp only [Value.slice.injEq] at hv
            obtain ⟨rfl, _, rfl⟩ := hv
            have hcell : ∀ m u, ee.cells[m]? = some u → wr.cell? ⟨eg, k * 4 + m, none⟩ = some u := fun m u hm => by
              have hm4 : m < 4 := by have := (List.getElem?_eq_some_iff.1 hm).1; simpa [EV.cells] using this
              exact hcc _ _ (by rw [flat_get EV.cells 4 (fun _ => rfl) evs k m hkl2 hm4, ← hee]; exact hm)
            have e0 : wr.cell? ⟨eg, k * 4, none⟩ = some (.int .i64 ee.kind) := hcell 0 _ rfl
            have e1 : wr.cell? ⟨eg, k * 4 + 1, none⟩ = some (.int .i64 ee.task) := hcell 1 _ rfl
            have e2 : wr.cell? ⟨eg, k * 4 + 2, none⟩ = some (.int .i64 ee.tick) := hcell 2 _ rfl
            have e3 : wr.cell? ⟨eg, k * 4 + 3, none⟩ = some (.int .i64 ee.val) := hcell 3 _ rfl
            obtain ⟨s', hs', hrest⟩ : ∃ s', pnE i n t.per Rr h (nx, at_) ee = some s' ∧ pnR i n t.per Rr h s' (evs.drop (k + 1)) = some sF := by
              cases hq : pnE i n t.per Rr h (nx, at_) ee with
              | none => rw [hq] at hpn; cases hpn
              | some s' => rw [hq] at hpn; exact ⟨s', rfl, hpn⟩
            obtain ⟨f1, f2, f3, f4, f5⟩ := pnE_some hs'
            have HRS := hidden hrest
            clear hcell hee hdr
            obtain ⟨ek, ej, et, ew⟩ := ee
            simp only at e0 e1 e2 e3 f1 f2 f3 f4 f5
            obtain ⟨X2, hX2⟩ : ∃ X2 : World, X2 = wr.alloc (.cells #[.int .i64 ek, .int .i64 ej, .int .i64 et, .int .i64 ew] 69 (0, 0)) := ⟨_, rfl⟩
            obtain ⟨xb, hxb⟩ : ∃ xb, xb = wr.heap.size := ⟨_, rfl⟩
            have hbX2 : Below wr.heap.size wr X2 := by rw [hX2]; exact (Below.refl _ _).alloc (Nat.le_refl _) _
            have hkX2 : Blk X2 xb #[.int .i64 ek, .int .i64 ej, .int .i64 et, .int .i64 ew] 69 := by rw [hX2, hxb]; exact blk_new wr _ _
            have HB2 := hidden (HBK.out.trans (hbX2.mono HBK.out.size))
            obtain ⟨y1, y2⟩ := HZ1.out X2 HB2.out
            have a0 : X2.cell? ⟨xb, 0, none⟩ = some (.int .i64 ek) := hkX2.cell 0 _ rfl
            have a1 : X2.cell? ⟨xb, 1, none⟩ = some (.int .i64 ej) := hkX2.cell 1 _ rfl
            have a2 : X2.cell? ⟨xb, 2, none⟩ = some (.int .i64 et) := hkX2.cell 2 _ rfl
            have a3 : X2.cell? ⟨xb, 3, none⟩ = some (.int .i64 ew) := hkX2.cell 3 _ rfl
            have hxl := hkX2.lt
            have htx : tg < X2.heap.size := Nat.lt_of_lt_of_le htc HB2.out.size
            have hqx : qb < X2.heap.size := Nat.lt_of_lt_of_le hqc HB2.out.size
            have HX2 := hidden hX2; have HXB := hidden hxb
            clear hX2 hxb hbX2 hkX2 hpn hrow hcc hs' hrest HBK HPN
            go_upto_region 14 with fail
            rw [← HX2.out, ← HXB.out]
            clear e0 e1 e2 e3
            have g1 : ¬ et < 0 := by omega
            have g2 : ¬ h ≤ et := by omega
            have g3 : ¬ ej < 0 := by omega
            have g4 : ¬ (n : Int) ≤ ej := by omega
            rcases f5 with ⟨f6, rfl⟩ | ⟨rfl, f6⟩
            · have y6 : (ej != (i : Int)) = true := by simpa using f6
              clear f6
              go_wp2_with fail
              go_roundw
              case rel => exact ⟨k + 1, nx, at_, by omega, rfl, rfl, by go_num, HRS, hnx, hat, HB2⟩
              case measure => simp [intOf]; omega
            · rcases f6 with ⟨rfl, f7, f8, rfl⟩ | ⟨rfl, f7, f8, f9, rfl⟩ | ⟨f7, f8, rfl⟩
              · have y7 : (et != nx) = false := by simp [f7]
                have y8 : ¬ 0 ≤ at_ := by omega
                have hnp : 0 ≤ nx + t.per ∧ nx + t.per ≤ 3000000 := by omega
                have hat2 : -1 ≤ et ∧ et ≤ 1000000 := by omega
                clear f7
                go_wp2_with fail
                go_roundw
                case rel => exact ⟨k + 1, nx + t.per, et, by omega, by go_num, rfl, by go_num, HRS, hnp, hat2, HB2⟩
                case measure => simp [intOf]; omega
              · have y7 : ¬ at_ < 0 := by omega
                have y8 : ¬ at_ + Rr ≤ et := by omega
                rcases f9 with rfl | rfl
                · go_wp2_with fail
                  go_roundw
                  case rel => exact ⟨k + 1, nx, -1, by omega, rfl, rfl, by go_num, HRS, hnx, ⟨by omega, by omega⟩, HB2⟩
                  case measure => simp [intOf]; omega
                · go_wp2_with fail
                  go_roundw
                  case rel => exact ⟨k + 1, nx, -1, by omega, rfl, rfl, by go_num, HRS, hnx, ⟨by omega, by omega⟩, HB2⟩
                  case measure => simp [intOf]; omega
              · have y7 : (ek == 1) = false := by simpa using f7
                have y8 : (ek == 2) = false := by simpa using f8
                clear f7 f8
                go_wp2_with fail
                go_roundw
                case rel => exact ⟨k + 1, nx, at_, by omega, rfl, rfl, by go_num, HRS, hnx, hat, HB2⟩
                case measure => simp [intOf]; omega
          · obtain rfl : k = en := by omega
            have hji : ¬ (k : Int) < (k : Int) := by omega
            have hfin : (nx, at_) = sF := by
              have := HPN.out
              rw [List.drop_eq_nil_of_le (by rw [← HEN.out]; exact Nat.le_refl _), pnR] at this
              exact Option.some.inj this
            have hf1 := HF1.out
            have hf2 := HF2.out
            rw [← hfin] at hf1 hf2
            simp only at hf1 hf2
            have g1 : ¬ nx < h := by omega
            obtain ⟨y1, y2⟩ := HZ1.out wr HBK.out
            have hqx : qb < wr.heap.size := Nat.lt_of_lt_of_le hqc HBK.out.size
            have HBF := hidden (HBC.out.trans (HBK.out.mono HBC.out.size))
            clear hfin hf1
            by_cases g2 : 0 ≤ at_
            · have g3 : ¬ at_ + Rr ≤ h := fun e => hf2 ⟨g2, e⟩
              clear hf2
              go_wp2_with fail
              go_roundw
              case rel => exact ⟨i + 1, by omega, by go_num, HBF⟩
              case measure => simp [intOf]; omega
            · clear hf2
              go_wp2_with fail
              go_roundw
              case rel => exact ⟨i + 1, by omega, by go_num, HBF⟩
              case measure => simp [intOf]; omega
    · obtain rfl : i = n := by omega
      have hji : ¬ (i : Int) < (i : Int) := by omega
      go_wp2_with fail
      go_ret
      exact ⟨rfl, HB.out⟩
end Go.Proofs.YtcphhbofjkenaaaGreatDoor
