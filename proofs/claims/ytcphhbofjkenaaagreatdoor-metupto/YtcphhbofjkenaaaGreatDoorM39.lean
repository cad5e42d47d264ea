import Derived.Test.YtcphhbofjkenaaaGreatDoorM38
namespace Go.Proofs.YtcphhbofjkenaaaGreatDoor
open Go Go.RowKit
set_option linter.unusedVariables false
set_option linter.unusedSimpArgs false
attribute [local go_sem] quietG
structure MSys (lo : Nat) (w : World) (bb : Nat) (ev cv : Value) (R : List PE × Int × Int × List Int) (ws : List RW) : Prop where
  l : LSys lo w bb ev cv R
  alk : Alk R.1 R.2.2.2 ws
  wsb : WsB ws
  wok : WsOk ws
  es : EsOk R.1
theorem MSys.below {lo : Nat} {w w' : World} {bb : Nat} {ev cv : Value} {R : List PE × Int × Int × List Int} {ws : List RW} (h : MSys lo w bb ev cv R ws) (hb : Below w.heap.size w w') : MSys lo w' bb ev cv R ws := ⟨h.l.below hb, h.alk, h.wsb, h.wok, h.es⟩
structure TM (lo : Nat) (w0 w : World) (bb : Nat) (ev cv : Value) (R : List PE × Int × Int × List Int) (ws : List RW) (mb : Nat) (mc : Array Value) (q : Nat) (v : Value) (tl : List TK) : Prop where
  sys : MSys lo w bb ev cv R ws
  mkr : Blk w mb mc 34
  row : w.ownsRow lo 67 4 v tl.length (tl.flatMap TK.cells)
  few : tl.length ≤ q
  ok : ∀ t ∈ tl, TkOk R.1 q t
  bel : Below lo w0 w
  sz : lo ≤ w0.heap.size ∧ 3 ≤ lo
section
variable {lo : Nat} {w0 w w' : World} {bb : Nat} {ev cv : Value} {R : List PE × Int × Int × List Int} {ws : List RW} {mb : Nat} {mc : Array Value} {q : Nat} {v : Value} {tl : List TK}
theorem TM.below (h : TM lo w0 w bb ev cv R ws mb mc q v tl) (hb : Below w.heap.size w w') : TM lo w0 w' bb ev cv R ws mb mc q v tl :=
  ⟨h.sys.below hb, h.mkr.sub hb h.mkr.lt, ownsRow_chg h.row (Chg.ofBelow (S := fun _ => False) hb) (fun _ _ => id), h.few, h.ok, h.bel.trans (hb.mono (Nat.le_trans h.sz.1 h.bel.size)), h.sz⟩
theorem TM.lw (h : TM lo w0 w bb ev cv R ws mb mc q v tl) : lo ≤ w.heap.size := Nat.le_trans h.sz.1 h.bel.size
theorem TM.load {s : ByteArray} {e : Ending} {c d k : UInt8} (h : TM lo w0 w bb ev cv R ws mb mc q v tl) (hp : LoadPost w bb ev cv (loadR s R.1 R.2.1 R.2.2.1 R.2.2.2) e w') (hc : rng c) (hcq : c.toNat = 48 + q) (hd : rng d) (hk : rng k) (hs : s.data.toList = taskT c d k) :
    ∃ (E P : Int) (ev' cv' : Value) (R' : List PE × Int × Int × List Int) (ws' : List RW), e = .returned (.tuple #[.int .i64 E, .int .i64 P]) ∧ MSys lo w' bb ev' cv' R' ws' ∧ Blk w' mb mc 34 ∧ w'.ownsRow lo 67 4 v tl.length (tl.flatMap TK.cells) ∧ tl.length ≤ q ∧ (∀ t ∈ tl, TkOk R'.1 (q + 1) t) ∧ Below lo w0 w' := by
  obtain ⟨h1, ⟨ev', cv', h2, h3⟩, h4⟩ := h.sys.l.load h.lw hp
  obtain ⟨ws', a1, a2, a3⟩ := load_ws s h.sys.alk h.sys.l.inv h.sys.wok h.sys.wsb
  obtain ⟨e1, e2⟩ := task_words h.sys.es hc hd hk hs R.2.1 R.2.2.1 R.2.2.2
  have key : ∀ {b : Nat} {t : TypeId}, TyOf w b t → t ≠ 122 → t ≠ 153 → t ≠ 3 → ¬ touch bb ev cv b := fun {b t} ht h1 h2 h3 hk => by
    rcases touch_ty h.sys.l hk ht with g | g | g
    · exact h1 g
    · exact h2 g
    · exact h3 g
  refine ⟨_, _, ev', cv', _, ws', h1, ⟨h2, a1, a2, a3, e1⟩, h.mkr.chg h4 (key (ty_blk h.mkr) (by decide) (by decide) (by decide)), ownsRow_chg h.row h4 (fun b hb => key (ty_own h.row hb) (by decide) (by decide) (by decide)), h.few, fun t ht => (h.ok t ht).more hcq e2, h.bel.trans (h4.toBelow h.lw (fun b hb e => by have := h.sys.l.touch_lo e; omega))⟩
end
theorem TM.snoc {lo : Nat} {w0 w w' : World} {bb : Nat} {ev cv : Value} {R : List PE × Int × Int × List Int} {ws : List RW} {mb : Nat} {mc : Array Value} {q : Nat} {v v' : Value} {tl : List TK} {t : TK} (h : TM lo w0 w bb ev cv R ws mb mc (q + 1) v tl) (hl : tl.length ≤ q) (hg : w.grownBy w' v.ownBlock) (hr : w'.ownsRow lo 67 4 v' (tl.length + 1) (tl.flatMap TK.cells ++ t.cells)) (ht : TkOk R.1 (q + 1) t) : TM lo w0 w' bb ev cv R ws mb mc (q + 1) v' (tl ++ [t]) := by
  have hc : Chg (fun k => some k = v.ownBlock) w w' := Chg.ofGrown hg
  have key : ∀ {b : Nat} {ty : TypeId}, TyOf w b ty → ty ≠ 67 → ¬ some b = v.ownBlock := fun {b ty} hb h1 e => h1 (hb.uniq (ty_own h.row e.symm))
  have hB : Below lo w w' := hc.toBelow h.lw (fun b hb e => by have := own_base h.row e.symm; omega)
  have htab : Tab w' := h.sys.l.tab.chg hc (fun k hk => Nat.le_trans h.sz.2 (own_base h.row hk.symm))
  refine ⟨⟨h.sys.l.chg hc htab (fun k hk e => ?_), h.sys.alk, h.sys.wsb, h.sys.wok, h.sys.es⟩, h.mkr.chg hc (key (ty_blk h.mkr) (by decide)), ?_, by rw [List.length_append, List.length_singleton]; omega, fun t' ht' => ?_, h.bel.trans hB, h.sz⟩
  · have hty : TyOf w k 67 := ty_own h.row e.symm
    rcases touch_ty h.sys.l hk hty with g | g | g
    · exact absurd g (by decide)
    · exact absurd g (by decide)
    · exact absurd g (by decide)
  · rw [List.length_append, List.length_singleton, List.flatMap_append]
    simpa using hr
  · rcases List.mem_append.1 ht' with g | g
    · exact h.ok t' g
    · rw [List.mem_singleton.1 g]; exact ht
def TasksPost (lo : Nat) (w0 : World) (bb mb : Nat) (mc : Array Value) (e : Ending) (w' : World) : Prop := ∃ (va : Option Addr) (vn vc : Nat) (ev cv : Value) (R : List PE × Int × Int × List Int) (ws : List RW) (tl : List TK), e = .returned (.slice va vn vc) ∧ TM lo w0 w' bb ev cv R ws mb mc 4 (.slice va vn vc) tl
theorem tkz_info : (Tryz.prog.info? 67).map (fun i => (i.zero, i.size, i.bytes)) = some (some (.agg #[.string ⟨#[]⟩, .int .i64 0, .int .i64 0, .int .i64 0]), 4, 40) := by kernel_rfl
set_option maxRecDepth 100000 in
set_option maxHeartbeats 3000000 in
theorem keep_tasks {B lo : Nat} {w : World} {bb : Nat} {ev cv : Value} {R : List PE × Int × Int × List Int} {ws : List RW} {mb : Nat} {a : Option Addr} {nn c : Nat} {i : Int} {s : ByteArray} {k v : Int} {al : Bool} {ja : Option Addr} {jn jc : Nat} {jl : List JR}
    (hs : MSys lo w bb ev cv R ws) (hlo : lo ≤ w.heap.size) (hm : Blk w mb (mkC a nn c i s k v al) 34) (hk1 : 1 ≤ k) (hk4 : k ≤ 4) (hj : JsAt B w (.slice ja jn jc) jl) (hjo : ∀ j ∈ jl, j.Ok) (hB : B ≤ lo) (hjl : jl.length ≤ 1100000) (hG : 3 ≤ lo) :
    Calls Tryz.prog 27 #[.pointer (some ⟨bb, 0, none⟩), .pointer (some ⟨mb, 0, none⟩), .slice ja jn jc] w (TasksPost lo w bb mb (mkC a nn c i s k v al)) := by
  have hjn : jn = jl.length := by
    rcases hj with ⟨rfl, a', c', e⟩ | ⟨pb, po, c', e, _⟩
    · simp at e; simp [e]
    · simp at e; exact e.2.1
  have hjn6 : (jn : Int) ≤ 1100000 := by omega
  have HTM : Hid (TM lo w w bb ev cv R ws mb (mkC a nn c i s k v al) 0 (.slice none 0 0) []) := hidden ⟨hs, hm, row0 _ _ _ _, Nat.le_refl _, (fun t ht => by cases ht), Below.refl _ _, hlo, hG⟩
  have HJ := hidden hj; have HJO := hidden hjo; have HJN := hidden hjn
  obtain ⟨mc, hmc⟩ : ∃ mc, mc = mkC a nn c i s k v al := ⟨_, rfl⟩
  have hm3 : mc[3]? = some (.int .i64 k) := by rw [hmc]; rfl
  have HM3 := hidden hm3
  rw [← hmc] at HTM ⊢
  obtain ⟨i0, hi, hz0, hz1, hz2⟩ := info_parts tkz_info
  have HI := hidden (And.intro hi (And.intro hz0 (And.intro hz1 hz2)))
  clear hs hm hj hjo hjn hmc hm3 hi hz0 hz1 hz2
  go_enter Tryz.func27, Tryz.ntmps27
  go_wp2_with fail
  go_loopw [7, 8] (fun lv kv wr => ∃ (q : Nat) (va : Option Addr) (vn vc : Nat) (ev cv : Value) (R : List PE × Int × Int × List Int) (ws : List RW) (tl : List TK), q ≤ 4 ∧ q ≤ jn ∧ lv = .slice va vn vc ∧ kv = .int .i64 q ∧ Hid (TM lo w wr bb ev cv R ws mb mc q (.slice va vn vc) tl)) (fun _ kv _ => 4 - (intOf kv).toNat)
  case atStart => exact ⟨0, none, 0, 0, ev, cv, R, ws, [], Nat.zero_le _, Nat.zero_le _, rfl, rfl, HTM⟩
  case round =>
    clear HTM
    obtain ⟨q, va, vn, vc, ev, cv, R, ws, tl, hq4, hqn, rfl, rfl, HQ⟩ := hrel
    have HEND : Hid (∀ wx, Below wr.heap.size wr wx → TasksPost lo w bb mb mc (.returned (.slice va vn vc)) wx) := hidden fun wx hb => ⟨va, vn, vc, ev, cv, R, ws, tl, rfl, by
      have h := HQ.out.below hb
      refine ⟨h.sys, h.mkr, h.row, Nat.le_trans h.few hq4, fun t ht => ?_, h.bel, h.sz⟩
      obtain ⟨⟨d, d1, d2⟩, r⟩ := h.ok t ht
      exact ⟨⟨d, d1, by omega⟩, r⟩⟩
    by_cases hlt : q < jn
    · have hqi : (q : Int) < (jn : Int) := by omega
      by_cases hl4 : q < 4
      · have hqi4 : (q : Int) < 4 := by omega
        clear HEND
        go_wp2_with fail
        refine (keep_digits2 (q : Int) (by omega) (by omega) wr).mono ?_
        rintro e w1 ⟨s1, rfl, ⟨s1a, s1b, s1c⟩, hb1⟩
        have HQ1 := hidden (HQ.out.below hb1)
        have HS1 := hidden s1c
        clear hb1 HQ s1b s1c
        go_upto_region 6 with fail
        obtain ⟨wd, hwd⟩ : ∃ wd : ByteArray, wd = ⟨#[116]⟩ ++ s1 := ⟨_, rfl⟩
        have hwds : wd.size = 2 := by rw [hwd, ByteArray.size_append, s1a]; rfl
        rw [← hwd]
        have hkl : q < jl.length := by rw [← HJN.out]; exact hlt
        obtain ⟨j, hjj⟩ : ∃ j, j = jl[q] := ⟨_, rfl⟩
        have hjok : j.Ok := HJO.out j (by rw [hjj]; exact List.getElem_mem hkl)
        obtain ⟨pb, po, jc', hja, hpb, hjcell⟩ : ∃ pb po c', ja = some ⟨pb, po, none⟩ ∧ pb < B ∧ ∀ (m : Nat) (u : Value), j.cells[m]? = some u → w.cell? ⟨pb, po + (q * 4 + m), none⟩ = some u := by
          rcases HJ.out with ⟨rfl, _⟩ | ⟨pb, po, c', e, _, h3, h4⟩
          · simp at hkl
          · simp at e
            refine ⟨pb, po, c', e.1, h3, fun m u hm => h4 _ _ ?_⟩
            have hm4 : m < 4 := by have := (List.getElem?_eq_some_iff.1 hm).1; simpa [JR.cells] using this
            rw [flat_get JR.cells 4 (fun _ => rfl) jl q m hkl hm4, ← hjj]; exact hm
        subst hja
        have hBw : B ≤ w1.heap.size := Nat.le_trans hB HQ1.out.lw
        have hpw : pb < w1.heap.size := by omega
        have HJC : Hid (∀ w', Below w1.heap.size w1 w' → ∀ (m : Nat) (u : Value), j.cells[m]? = some u → w'.cell? ⟨pb, po + (q * 4 + m), none⟩ = some u) := hidden fun w' hb m u hm => by
          rw [hb.cell (p := ⟨pb, po + (q * 4 + m), none⟩) hpw, (HQ1.out.bel.mono hB).cell (p := ⟨pb, po + (q * 4 + m), none⟩) hpb]
          exact hjcell m u hm
        have hml := HQ1.out.mkr.lt
        have HW1 := hidden HQ1.out.bel
        have k0 : ∀ u : {w' : World // Below w1.heap.size w1 w'}, u.val.cell? ⟨pb, po + q * 4, none⟩ = some (.int .i64 j.wd) := fun u => HJC.out u.val u.property 0 _ rfl
        have k1 : ∀ u : {w' : World // Below w1.heap.size w1 w'}, u.val.cell? ⟨mb, 3, none⟩ = some (.int .i64 k) := fun u => (u.property.cell (p := ⟨mb, 3, none⟩) hml).trans (HQ1.out.mkr.cell 3 _ HM3.out)
        have hne : Nonempty {w' : World // Below w1.heap.size w1 w'} := ⟨⟨w1, Below.refl _ _⟩⟩
        have hw2 : IntKind.i64.wrap ((q : Int) + 2) = (q : Int) + 2 := i64_wrap _ (by omega) (by omega)
        have HWD := hidden hwd; have HJOK := hidden hjok
        clear hwd hjj hjok hjcell
        refine wp_region_order (C := OneOf fun w' => Below w1.heap.size w1 w') 22 [0, 1, 2, 3, 4, 5, 9, 10, 11, 12, 13, 14, 15, 16, 17, 6, 7, 8, 18, 19, 20, 21] [6, 18, 19] ⟨w1.drew, (Below.refl _ w1).drew⟩ (by kernel_rfl) (by kernel_rfl) rfl ?_
        iterate 15 (refine wpT_step rfl rfl (fun K hK => ?_); go_simp; refine hK _ ?_; clear hK K)
        refine wpT_call1 rfl rfl 16 #[.int .i64 ((q : Int) + 2)] (by go_simp) ((keep_digits2 ((q : Int) + 2) (by omega) (by omega) _).mono ?_)
        rintro e w2 ⟨s2, rfl, ⟨s2a, _, s2c⟩, hb2⟩
        have hb12 : Below w1.heap.size w1 w2 := (Below.refl _ w1).drew.trans hb2
        refine ⟨_, rfl, hb12, ?_⟩
        iterate 2 (refine wpT_step rfl rfl (fun K hK => ?_); go_simp; refine hK _ ?_; clear hK K)
        refine wpT_call1 rfl rfl 17 #[.int .i64 j.wd, .int .i64 k] (by go_simp) ((keep_pick j.wd k HJOK.out.1 hk1 (by omega) _).mono ?_)
        rintro e w3 ⟨r, rfl, r0, r1, rfl⟩
        refine ⟨_, rfl, hb12, ?_⟩
        refine wpT_call1 rfl rfl 16 #[.int .i64 r] (by go_simp) ((keep_digits2 r r0 (by omega) _).mono ?_)
        rintro e w4 ⟨s3, rfl, ⟨s3a, _, s3c⟩, hb4⟩
        have hb14 : Below w1.heap.size w1 w4 := hb12.trans (hb4.mono hb12.size)
        refine ⟨_, rfl, hb14, ?_⟩
        iterate 2 (refine wpT_step rfl rfl (fun K hK => ?_); go_simp; refine hK _ ?_; clear hK K)
        refine wpT_end ?_
        intro w' hw'
        rw [show w' = w4 from hw']
        clear hw' w'
        simp only [List.drop_succ_cons, List.drop_zero]
        obtain ⟨T, hT⟩ : ∃ T : ByteArray, T = ⟨#[58, 32]⟩ ++ wd ++ ⟨#[32]⟩ ++ s2 ++ ⟨#[32, 119]⟩ ++ s3 ++ ⟨#[32, 100, 114, 111, 112, 32, 59]⟩ := ⟨_, rfl⟩
        rw [← hT]
        obtain ⟨cd, cd1, cd2, cd3⟩ := HS1.out
        obtain ⟨dd, dd1, dd2, dd3⟩ := s2c
        obtain ⟨kd, kd1, kd2, kd3⟩ := s3c
        have hTl : T.data.toList = taskT cd dd kd := by
          rw [hT, HWD.out]
          simp only [ByteArray.data_append, Array.toList_append, cd1, dd1, kd1]
          rfl
        have hTs : T.size = 16 := by
          have : T.size = T.data.toList.length := by simp
          rw [this, hTl]; rfl
        have hwl : wd.toList = [116, cd] := by
          rw [HWD.out, ba_data]
          simp only [ByteArray.data_append, Array.toList_append, cd1]
          rfl
        have hQ4 := HQ1.out.below hb14
        have HLD := hidden (forth_load T hQ4.sys.l.sys hQ4.sys.l.tab (by omega) hQ4.sys.l.inv)
        have HQ4 := hidden hQ4; have HTL := hidden hTl; have HWL := hidden hwl; have HCD := hidden (show cd.toNat = 48 + q by omega)
        have HDG := hidden (And.intro (show rng cd from ⟨by omega, by omega⟩) (And.intro (show cd.toNat = 48 + q by omega) (And.intro (show rng dd from ⟨by omega, by omega⟩) (show rng kd from ⟨by omega, by omega⟩))))
        have hw14 := hb14.size
        clear hb12 hb2 hb4 hT hTl hwl hQ4 k0 k1 hne cd1 dd1 kd1 HQ1 HS1 s1a s2a s3a
        go_wp2_with fail
        refine HLD.out.mono ?_
        intro e w5 hpost
        obtain ⟨E5, P5, ev5, cv5, R5, ws5, rfl, hs5, hm5, hr5, hf5, ho5, hB5⟩ := HQ4.out.load hpost HDG.out.1 HDG.out.2.1 HDG.out.2.2.1 HDG.out.2.2.2 HTL.out
        have hf6 := hf5
        have hTM5 : TM lo w w5 bb ev5 cv5 R5 ws5 mb mc (q + 1) (.slice va vn vc) tl := ⟨hs5, hm5, hr5, by omega, ho5, hB5, HQ4.out.sz⟩
        have HTM5 := hidden hTM5
        have hJ5 : ∀ (m : Nat) (u : Value), j.cells[m]? = some u → w5.cell? ⟨pb, po + (q * 4 + m), none⟩ = some u := fun m u hm => by
          have e1 := HJC.out w1 (Below.refl _ _) m u hm
          have b1 : w1.cell? ⟨pb, po + (q * 4 + m), none⟩ = w.cell? ⟨pb, po + (q * 4 + m), none⟩ := HW1.out.cell (p := ⟨pb, po + (q * 4 + m), none⟩) (by show pb < lo; omega)
          rw [hB5.cell (p := ⟨pb, po + (q * 4 + m), none⟩) (by show pb < lo; omega), ← b1]
          exact e1
        have hlk : (∃ x : PE, lastP R5.1 wd R5.1.length = some x ∧ x.var = false ∧ TEff x.inf ∧ 1 ≤ x.inf.steps) ∨ ∃ (I : Inf) (E : Int), findRes (lastP R5.1 wd R5.1.length) = .tuple #[I.val, .int .i64 E] ∧ E ≠ 0 := by
          have hfe := find_eq hs5.alk.toAlike wd
          rcases found hs5.alk hs5.l.inv hs5.wsb wd with g | ⟨g, kk, y, l, _, _, g3, _, _, _, g4, _⟩
          · exact Or.inr ⟨_, _, hfe, by rw [g]; decide⟩
          · cases hl : lastP R5.1 wd R5.1.length with
            | none => rw [hl, g] at hfe; simp [findRes] at hfe
            | some x =>
              obtain ⟨v1, v2⟩ := last_task hs5.es HWL.out hl
              refine Or.inl ⟨x, rfl, v1, v2, ?_⟩
              rw [hl, g, g3] at hfe
              simp [findRes, v1, Inf.val] at hfe
              omega
        have HFD := hidden (forth_find wd hs5.l.sys (by have := hs5.l.inv.l; omega))
        have HJ5 := hidden hJ5
        clear hpost hs5 hm5 hr5 hf5 ho5 hB5 hTM5 hJ5 HQ4 HLD HTL HDG hTs hw14 hb14 HW1 HJC
        rcases hlk with ⟨x, hx1, hx2, hx3, hx4⟩ | ⟨I, E, hx1, hx2⟩
        case inr =>
          rw [hx1] at HFD
          obtain ⟨nd, net, hg, st, str⟩ := I
          simp only [Inf.val] at HFD
          have hE : (E != 0) = true := by simpa using hx2
          clear hx1 hx2
          go_wp2_with fail
          refine HFD.out.mono ?_
          rintro e w6 ⟨rfl, hb6⟩
          have HQX := hidden (HTM5.out.below (hb6.trans ((Below.refl _ w6).alloc (Nat.le_refl _) (.cells #[.int .i64 nd, .int .i64 net, .int .i64 hg, .int .i64 st, .bool str] 36 (0, 0)) |>.mono hb6.size)))
          clear hb6 HFD HTM5
          go_wp2_with fail
          go_roundw
          case rel => exact ⟨q + 1, va, vn, vc, ev5, cv5, R5, ws5, tl, by omega, by omega, rfl, by go_num, HQX⟩
          case measure => simp [intOf]; omega
        case inl =>
          have hfr : findRes (lastP R5.1 wd R5.1.length) = .tuple #[x.inf.val, .int .i64 0] := by rw [hx1]; simp [findRes, hx2]
          rw [hfr] at HFD
          obtain ⟨nd, net, hg, st, str, hI⟩ : ∃ nd net hg st str, x.inf = ⟨nd, net, hg, st, str⟩ := ⟨_, _, _, _, _, rfl⟩
          rw [hI] at HFD hx3 hx4
          simp only [Inf.val] at HFD hx4
          have hst9 : st ≤ 1000000001 := by
            have := (HTM5.out.sys.l.inv.w x (last_in (Nat.le_refl _) hx1).1).s1
            rw [hI] at this; exact this
          have HX1 := hidden hx1; have HX2 := hidden hx2; have HX3 := hidden hx3; have HXI := hidden hI
          clear hfr hx1 hx2 hx3 hI
          obtain ⟨kb, hkb⟩ : ∃ kb : Nat, kb = 0 := ⟨_, rfl⟩
          clear hkb kb
          go_wp2_with fail
          refine HFD.out.mono ?_
          rintro e w6 ⟨rfl, hb6⟩
          obtain ⟨X, hX⟩ : ∃ X : World, X = w6.alloc (.cells #[.int .i64 nd, .int .i64 net, .int .i64 hg, .int .i64 st, .bool str] 36 (0, 0)) := ⟨_, rfl⟩
          obtain ⟨kb, hkb⟩ : ∃ kb, kb = w6.heap.size := ⟨_, rfl⟩
          have hbX : Below w6.heap.size w6 X := by rw [hX]; exact (Below.refl _ _).alloc (Nat.le_refl _) _
          have hkX : Blk X kb #[.int .i64 nd, .int .i64 net, .int .i64 hg, .int .i64 st, .bool str] 36 := by rw [hX, hkb]; exact blk_new w6 _ _
          have HQX := hidden (HTM5.out.below (hb6.trans (hbX.mono hb6.size)))
          have hJX : ∀ (m : Nat) (u : Value), j.cells[m]? = some u → X.cell? ⟨pb, po + (q * 4 + m), none⟩ = some u := fun m u hm => ((hb6.trans (hbX.mono hb6.size)).cell (p := ⟨pb, po + (q * 4 + m), none⟩) (show pb < w5.heap.size by have := HTM5.out.lw; omega)).trans (HJ5.out m u hm)
          have z3 : X.cell? ⟨kb, 3, none⟩ = some (.int .i64 st) := hkX.cell 3 _ rfl
          have hkl3 := hkX.lt
          have hpX : pb < X.heap.size := by have := HQX.out.lw; omega
          have HX := hidden hX; have HKB := hidden hkb; have HJX := hidden hJX; have HKX := hidden hkX
          clear hb6 hX hkb hbX hkX hJX HFD HTM5 HJ5
          go_upto_region 8 with fail
          rw [← HX.out, ← HKB.out]
          by_cases h500 : 500 < st
          · go_wp2_with fail
            go_roundw
            case rel => exact ⟨q + 1, va, vn, vc, ev5, cv5, R5, ws5, tl, by omega, by omega, rfl, by go_num, HQX⟩
            case measure => simp [intOf]; omega
          · have j1 : X.cell? ⟨pb, po + q * 4 + 1, none⟩ = some (.int .i64 j.more) := by rw [Nat.add_assoc]; exact HJX.out 1 _ rfl
            have j2 : X.cell? ⟨pb, po + q * 4 + 2, none⟩ = some (.int .i64 j.slack) := by rw [Nat.add_assoc]; exact HJX.out 2 _ rfl
            have j3 : X.cell? ⟨pb, po + q * 4 + 3, none⟩ = some (.int .i64 j.off) := by rw [Nat.add_assoc]; exact HJX.out 3 _ rfl
            have k0 : ∀ u : {w' : World // Below X.heap.size X w'}, u.val.cell? ⟨kb, 3, none⟩ = some (.int .i64 st) := fun u => (u.property.cell (p := ⟨kb, 3, none⟩) hkl3).trans z3
            have k1 : ∀ u : {w' : World // Below X.heap.size X w'}, u.val.cell? ⟨pb, po + q * 4 + 1, none⟩ = some (.int .i64 j.more) := fun u => (u.property.cell (p := ⟨pb, po + q * 4 + 1, none⟩) hpX).trans j1
            have k2 : ∀ u : {w' : World // Below X.heap.size X w'}, u.val.cell? ⟨pb, po + q * 4 + 2, none⟩ = some (.int .i64 j.slack) := fun u => (u.property.cell (p := ⟨pb, po + q * 4 + 2, none⟩) hpX).trans j2
            have hne : Nonempty {w' : World // Below X.heap.size X w'} := ⟨⟨X, Below.refl _ _⟩⟩
            obtain ⟨_, i2, i3, i4⟩ := HJOK.out
            have HI2 := hidden i2; have HI3 := hidden i3; have HI4 := hidden i4
            clear i2 i3 i4
            go_upto_region 9 with fail
            refine wp_region_turns (C := OneOf fun w' => Below X.heap.size X w') 8 [7] ⟨X.drew, (Below.refl _ X).drew⟩ (by kernel_rfl) (by kernel_rfl) rfl ?_
            rw [show List.range 8 = [0, 1, 2, 3, 4, 5, 6, 7] from rfl]
            iterate 7 (refine wpT_step rfl rfl (fun K hK => ?_); go_simp; refine hK _ ?_; clear hK K)
            refine wpT_call1 rfl rfl 17 #[.int .i64 j.more, .int .i64 2000] (by go_simp) ((keep_pick j.more 2000 HI2.out (by omega) (by omega) _).mono ?_)
            rintro e w7 ⟨p1, rfl, p10, p11, rfl⟩
            refine ⟨_, rfl, (Below.refl _ X).drew, wpT_end ?_⟩
            intro w' hw'
            rw [show w' = X.drew from hw']
            clear hw' w'
            simp only [List.drop_succ_cons, List.drop_zero]
            go_upto_region 10 with fail
            obtain ⟨P, hP⟩ : ∃ P : Int, P = st + p1 := ⟨_, rfl⟩
            rw [← hP]
            have hP0 : st ≤ P := by omega
            have hP1 : P ≤ 2500 := by omega
            have HP := hidden hP
            clear hP
            obtain ⟨D, hD⟩ : ∃ D : Int, D = P - st := ⟨_, rfl⟩
            have hPD : P - st = D := hD.symm
            have hw3 : IntKind.i64.wrap D = D := i64_wrap _ (by omega) (by omega)
            have hw4 : IntKind.i64.wrap (D + 1) = D + 1 := i64_wrap _ (by omega) (by omega)
            have HDD := hidden hD
            have hD0 : 0 ≤ D := by omega
            have hD1 : D ≤ 2500 := by omega
            clear hD
            refine wp_region_turns (C := OneOf fun w' => Below X.heap.size X w') 12 [11] ⟨X.drew.drew, (Below.refl _ X).drew.drew⟩ (by kernel_rfl) (by kernel_rfl) rfl ?_
            rw [show List.range 12 = [0, 1, 2, 3, 4, 5, 6, 7, 8, 9, 10, 11] from rfl]
            iterate 11 (refine wpT_step rfl rfl (fun K hK => ?_); go_simp; refine hK _ ?_; clear hK K)
            refine wpT_call1 rfl rfl 17 #[.int .i64 j.slack, .int .i64 (D + 1)] (by go_simp) ((keep_pick j.slack (D + 1) HI3.out (by omega) (by omega) _).mono ?_)
            rintro e w8 ⟨p2, rfl, p20, p21, rfl⟩
            refine ⟨_, rfl, (Below.refl _ X).drew.drew, wpT_end ?_⟩
            intro w' hw'
            rw [show w' = X.drew.drew from hw']
            clear hw' w'
            simp only [List.drop_succ_cons, List.drop_zero]
            obtain ⟨dl, hdl⟩ : ∃ dl : Int, dl = P - p2 := ⟨_, rfl⟩
            have hPd : P - p2 = dl := hdl.symm
            have hdl0 : st ≤ dl := by have := HDD.out; omega
            have hdl1 : dl ≤ P := by omega
            clear hdl
            go_upto_region 11 with fail
            obtain ⟨Y, hY⟩ : ∃ Y : World, Y = X.drew.drew := ⟨_, rfl⟩
            have j3Y : Y.cell? ⟨pb, po + q * 4 + 3, none⟩ = some (.int .i64 j.off) := by rw [hY]; exact j3
            have hpY : pb < Y.heap.size := by rw [hY]; exact hpX
            have HQY : Hid (TM lo w Y bb ev5 cv5 R5 ws5 mb mc (q + 1) (.slice va vn vc) tl) := hidden (by rw [hY]; exact HQX.out.below (Below.refl _ X).drew.drew)
            rw [← hY]
            clear hY k0 k1 k2 hne j1 j2 j3 z3 HQX HX HKB HJX HKX hw3 hw4 HI2 HI3
            go_wp2_with fail
            refine (keep_pick j.off 300 HI4.out (by omega) (by omega) _).mono ?_
            rintro e w9 ⟨p3, rfl, p30, p31, rfl⟩
            obtain ⟨hi0, hz0, hsz0, hb0⟩ := HI.out
            have hTA := HQY.out.below ((Below.refl _ w9).alloc (Nat.le_refl _) (.cells #[.string wd, .int .i64 P, .int .i64 dl, .int .i64 p3] 67 (0, 0)))
            have hrA := hTA.row
            have hlo9 := hTA.lw
            obtain ⟨qn, hqn⟩ : ∃ qn, qn = tl.length := ⟨_, rfl⟩
            obtain ⟨qi, hqi⟩ : ∃ qi, qi = tl.flatMap TK.cells := ⟨_, rfl⟩
            rw [← hqn, ← hqi] at hrA
            have hqs : qn ≤ 8 := by have := hf6; omega
            have HRA := hidden hrA; have HTA := hidden hTA
            have HNW := hidden (newsM w9 #[.string wd, .int .i64 P, .int .i64 dl, .int .i64 p3] 67)
            have H1C : Hid (∀ u ∈ [Value.string wd, .int .i64 P, .int .i64 dl, .int .i64 p3], u.oneCell' = true) := hidden fun u hu => by
              simp only [List.mem_cons, List.not_mem_nil, or_false] at hu
              rcases hu with rfl | rfl | rfl | rfl <;> rfl
            have HQQ := hidden (And.intro hqn hqi)
            clear hqn hqi hrA hTA j3Y HQY
            go_wp2_with (at_builtin; refine wpList_append_own _ rfl _ _ 55 rfl lo 67 i0 (.agg #[.string ⟨#[]⟩, .int .i64 0, .int .i64 0, .int .i64 0]) 4 40 Tryz.underlying55 hi0 hz0 hsz0 hb0 rfl (by decide) (.slice va vn vc) qn qi rfl HRA.out ⟨w9.heap.size, 0, none⟩ 1 1 [.string wd, .int .i64 P, .int .i64 dl, .int .i64 p3] rfl rfl HNW.out H1C.out (by unfold maxLen; omega) (by omega) hlo9 ?_)
            intro v4 w10 hr4 hg4 _
            have htk : TkOk R5.1 (q + 1) ⟨wd, P, dl, p3⟩ := ⟨⟨cd, HWL.out, by have := HCD.out; omega⟩, ⟨x, HX1.out, HX2.out, by rw [HXI.out]; exact HX3.out, by rw [HXI.out]; exact hx4, by rw [HXI.out]; show st ≤ 500; omega, by rw [HXI.out]; exact hdl0⟩, ⟨by show 1 ≤ P; omega, by show P ≤ 1000000; omega, by show 1 ≤ dl; omega, hdl1, p30, by show p3 ≤ 1000000; omega⟩⟩
            have hfin : TM lo w w10 bb ev5 cv5 R5 ws5 mb mc (q + 1) v4 (tl ++ [⟨wd, P, dl, p3⟩]) := HTA.out.snoc hf6 hg4 (by
              obtain ⟨e1, e2⟩ := HQQ.out
              rw [← e1, ← e2]
              exact hr4) htk
            obtain ⟨a4, c4, rfl, _, _⟩ := row_shape hfin.row
            generalize hn4 : (tl ++ [(⟨wd, P, dl, p3⟩ : TK)]).length = n4 at hfin ⊢
            have HF := hidden hfin
            clear hr4 hg4 htk hfin hi0 hz0 hsz0 hb0 HNW HRA HTA HQQ H1C hn4
            go_wp2_with fail
            go_roundw
            case rel => exact ⟨q + 1, a4, n4, c4, ev5, cv5, R5, ws5, _, by omega, by omega, rfl, by go_num, HF⟩
            case measure => simp [intOf]; omega
      · obtain rfl : q = 4 := by omega
        go_wp2_with fail
        go_ret
        exact HEND.out _ (Below.refl _ _)
    · obtain rfl : q = jn := by omega
      have hji : ¬ (q : Int) < (q : Int) := by omega
      go_wp2_with fail
      go_ret
      exact HEND.out _ (Below.refl _ _)
end Go.Proofs.YtcphhbofjkenaaaGreatDoor
