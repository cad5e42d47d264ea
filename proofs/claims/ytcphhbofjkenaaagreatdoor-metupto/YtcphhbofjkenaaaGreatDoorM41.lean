import Derived.Test.YtcphhbofjkenaaaGreatDoorM35
import Derived.Test.YtcphhbofjkenaaaGreatDoorM40
namespace Go.Proofs.YtcphhbofjkenaaaGreatDoor
set_option maxRecDepth 100000
set_option maxHeartbeats 16000000
open Go Go.RowKit
set_option linter.unusedVariables false
set_option linter.unusedSimpArgs false
def simC (ws : List RW) (l : List TK) (ins : List Int) (h : Int) : Int × Nat := if 0 ≤ h ∧ h ≤ 100000 ∧ areC ins = true then admitT ws l else (1, 0)
def simB (es : List PE) (nn : Nat) (l : List TK) (ins : List Int) : PS := ⟨(tsOf es l).map (fun t => beginM t.st), List.replicate l.length false, ⟨List.replicate nn 0, [], ins⟩, []⟩
def simS (es : List PE) (code : List Int) (ws : List RW) (nn : Nat) (l : List TK) (ins : List Int) (h : Nat) : PS := simP code (tsOf es l) (rksP (loadsT ws l)) l.length h (simB es nn l ins)
def SimuPost (w : World) (es : List PE) (code : List Int) (ws : List RW) (nn : Nat) (l : List TK) (ins : List Int) (h : Int) (e : Ending) (w' : World) : Prop :=
  (∃ va vn vc, e = .returned (.tuple #[.slice va vn vc, .int .i64 (simC ws l ins h).1, .int .i64 (simC ws l ins h).2]) ∧ ((simC ws l ins h).1 ≠ 0 → va = none ∧ vn = 0 ∧ vc = 0) ∧ ((simC ws l ins h).1 = 0 → ERow w.heap.size w' (.slice va vn vc) (simS es code ws nn l ins h.toNat).es)) ∧ Below w.heap.size w w'
theorem SimuPost.err {w w' : World} {es : List PE} {code : List Int} {ws : List RW} {nn : Nat} {l : List TK} {ins : List Int} {h : Int} {e : Ending} {E : Int} {K : Nat} (hs : simC ws l ins h = (E, K)) (h0 : E ≠ 0) (he : e = .returned (.tuple #[.slice none 0 0, .int .i64 E, .int .i64 K])) (hb : Below w.heap.size w w') : SimuPost w es code ws nn l ins h e w' := by
  refine ⟨⟨none, 0, 0, ?_, fun _ => ⟨rfl, rfl, rfl⟩, fun e => ?_⟩, hb⟩
  · rw [hs]; exact he
  · rw [hs] at e; exact absurd e h0
theorem scanW_ne {ws : List RW} : ∀ {l : List TK} {k : Nat} {E : Int} {j : Nat}, scanW ws l k = some (E, j) → E ≠ 0
  | [], _, _, _, h => by cases h
  | t :: r, k, E, j, h => by
    unfold scanW at h
    split at h
    · rename_i hx
      injection h with h
      injection h with h1 h2
      rw [← h1]; exact hx
    · exact scanW_ne h
theorem own_lower {B C : Nat} {w : World} {e : TypeId} {size n : Nat} {v : Value} {xs : List Value} (h : w.ownsRow B e size v n xs) (hb : C ≤ B) : w.ownsRow C e size v n xs := by
  refine ⟨h.1, ?_⟩
  rcases h.2 with h | ⟨g, cap, cur, h1, h2, h3⟩
  · exact Or.inl h
  · exact Or.inr ⟨g, cap, cur, h1, Nat.le_trans hb h2, h3⟩
theorem admit_ok {ws : List RW} {l : List TK} (h : (admitT ws l).1 = 0) : 0 < l.length ∧ l.length ≤ 8 ∧ (admitT ws l).2 = 0 ∧ (∀ t ∈ l, (findI ws t.word).2 = 0 ∧ t.Fits) := by
  unfold admitT at h ⊢
  by_cases h8 : l.length = 0 ∨ 8 < l.length
  · rw [if_pos h8] at h; exact absurd h (by decide)
  · rw [if_neg h8] at h ⊢
    cases hs : scanW ws l 0 with
    | some r =>
      exfalso
      obtain ⟨E, k⟩ := r
      rw [hs] at h
      simp only at h
      exact scanW_ne hs h
    | none =>
      rw [hs] at h
      simp only at h ⊢
      refine ⟨by omega, by omega, ?_, fun t ht => ?_⟩
      · split at h
        · simp at h
        · rfl
      · have := scanW_none hs t ht
        unfold wrongT at this
        split at this
        · rename_i e; exact absurd this e
        · rename_i e
          split at this
          · exact absurd this (by decide)
          · rename_i e2
            exact ⟨Classical.byContradiction e, Classical.byContradiction e2⟩
section
variable {es : List PE} {code : List Int} {ws : List RW} {nn : Nat} {l : List TK} {ins : List Int}
theorem ts_ok (hk : Alk es code ws) (h : (admitT ws l).1 = 0) : (∀ t ∈ l, ∃ p : Nat, startOf (lastP es t.word es.length) = some (p : Int) ∧ p < code.length) ∧ (∀ t ∈ tsOf es l, TOk es code t ∧ TFit t) := by
  have key : ∀ t ∈ l, ∃ (p q : Nat) (y : RW), startOf (lastP es t.word es.length) = some (p : Int) ∧ p < code.length ∧ CList es code false y.its p q ∧ code[q]? = some 34 := fun t ht => by
    obtain ⟨_, _, _, ha⟩ := admit_ok h
    rcases start_both hk.coded hk.toAlike t.word with ⟨_, e2⟩ | ⟨k, p, q, y, e1, e2, e3, e4, e5, e6, e7, e8⟩
    · have := (ha t ht).1; omega
    · exact ⟨p, q, y, e4, e6, e7, e8⟩
  refine ⟨fun t ht => ?_, fun t ht => ?_⟩
  · obtain ⟨p, q, y, a, b, _⟩ := key t ht
    exact ⟨p, a, b⟩
  · obtain ⟨t0, ht0, rfl⟩ := List.mem_map.1 ht
    obtain ⟨p, q, y, a, b, c, d⟩ := key t0 ht0
    obtain ⟨_, _, _, ha⟩ := admit_ok h
    obtain ⟨_, f1, f2, f3, f4, f5, f6⟩ := ha t0 ht0
    refine ⟨⟨y, q, ?_, d, ?_⟩, f1, f2, f5, f6⟩
    · simp only [a, Option.getD_some, Int.toNat_natCast]; exact c
    · simp only [a, Option.getD_some, Int.toNat_natCast]; exact b
theorem simI_begin (hc : areC ins = true) : SimI es code l.length nn 0 0 (simB es nn l ins) := by
  refine ⟨by simp [simB, tsOf], by simp [simB], rfl, by simp [simB], fun a ha => ?_, areC_cell hc, Nat.le_refl _, fun i m hm hb => ?_⟩
  · rw [(List.mem_replicate.1 ha).2]; exact ⟨by omega, by omega⟩
  · simp only [simB, List.getD_eq_getElem?_getD, List.getElem?_replicate] at hb
    split at hb <;> simp at hb
end
theorem rates_simulate {w : World} {bb : Nat} {ev cv : Value} {es : List PE} {nv nt : Int} {code : List Int} {ws : List RW} {ins : List Int} {iv : Value} (l : List TK) (ta : Option Addr) (n tc : Nat) (h : Int) (hs : PSys w bb ev cv es nv nt code) (hi : LInv es nv nt code) (hk : Alk es code ws) (ht : Tab w)
    (hn : n = l.length) (hnc : n ≤ tc) (hnb : n ≤ 1100000) (hc : n = 0 ∨ ∃ tg, ta = some ⟨tg, 0, none⟩ ∧ tg < w.heap.size ∧ ∀ (j : Nat) (u : Value), (l.flatMap TK.cells)[j]? = some u → w.cell? ⟨tg, j, none⟩ = some u)
    (hj : InsAt w.heap.size w iv ins) (hil : ins.length ≤ 1100000) :
    Calls Tryz.prog 29 #[.pointer (some ⟨bb, 0, none⟩), .slice ta n tc, iv, .int .i64 h] w (SimuPost w es code ws nv.toNat l ins h) := by
  have HA := hidden (mach_areCells hj (Nat.le_refl _) hil)
  have HAD := hidden (rates_admit l ta n tc hs (by have := hi.l; omega) hk.toAlike hn hnc hnb hc)
  obtain ⟨ia, ic, hiv⟩ := insAt_len hj
  have HJ := hidden hj; have HS := hidden hs; have HI := hidden hi; have HK := hidden hk; have HT := hidden ht; have HN := hidden hn; have HC := hidden hc
  have HIV := hidden hiv
  clear hj hs hi hk ht hn hc
  obtain ⟨il, hile⟩ : ∃ il, il = ins.length := ⟨_, rfl⟩
  rw [← hile] at hiv
  have HILE := hidden (show ins.length ≤ 1100000 from hil)
  clear hile hil
  subst hiv
  by_cases h0 : h < 0
  · have HE : Hid (simC ws l ins h = (1, 0)) := hidden (by unfold simC; rw [if_neg (by omega)])
    clear HA HAD HJ HS HI HK HT HN HC HIV
    go_enter Tryz.func29, Tryz.ntmps29
    go_wp2_with fail
    exact bodyPost_ret (v := .tuple #[.slice none 0 0, .int .i64 1, .int .i64 0]) (by simp [results, Tryz.results29, go_sem]) rfl (SimuPost.err HE.out (by decide) rfl (Below.refl _ _))
  by_cases h1 : 100000 < h
  · have HE : Hid (simC ws l ins h = (1, 0)) := hidden (by unfold simC; rw [if_neg (by omega)])
    clear HA HAD HJ HS HI HK HT HN HC HIV
    go_enter Tryz.func29, Tryz.ntmps29
    go_wp2_with fail
    exact bodyPost_ret (v := .tuple #[.slice none 0 0, .int .i64 1, .int .i64 0]) (by simp [results, Tryz.results29, go_sem]) rfl (SimuPost.err HE.out (by decide) rfl (Below.refl _ _))
  obtain ⟨A, hA⟩ : ∃ A, A = areC ins := ⟨_, rfl⟩
  rw [← hA] at HA
  have HAA := hidden hA
  clear hA
  go_enter Tryz.func29, Tryz.ntmps29
  go_wp2_with fail
  refine HA.out.mono ?_
  rintro e w' ⟨rfl, rfl⟩
  clear HA
  cases A
  · have HE : Hid (simC ws l ins h = (1, 0)) := hidden (by unfold simC; rw [if_neg (by rw [← HAA.out]; simp)])
    go_wp2_with fail
    exact bodyPost_ret (v := .tuple #[.slice none 0 0, .int .i64 1, .int .i64 0]) (by simp [results, Tryz.results29, go_sem]) rfl (SimuPost.err HE.out (by decide) rfl (Below.refl _ _))
  have HSC : Hid (simC ws l ins h = admitT ws l) := hidden (by unfold simC; rw [if_pos ⟨by omega, by omega, HAA.out.symm⟩])
  go_wp2_with fail
  refine HAD.out.mono ?_
  rintro e w2 ⟨⟨pa, pn, pc, rfl, herr, hok⟩, hb2⟩
  obtain ⟨E, hE⟩ : ∃ E, E = (admitT ws l).1 := ⟨_, rfl⟩
  obtain ⟨K, hK⟩ : ∃ K, K = (admitT ws l).2 := ⟨_, rfl⟩
  rw [← hE] at herr hok
  rw [← hE, ← hK]
  by_cases hE0 : E = 0
  case neg =>
    obtain ⟨rfl, rfl, rfl⟩ := herr hE0
    have hx : (E != 0) = true := by simpa using hE0
    have HE : Hid (simC ws l ins h = (E, K)) := hidden (by rw [HSC.out, hE, hK])
    have HB2 := hidden hb2; have HE0 := hidden hE0
    clear herr hok hE hK hb2 hE0 HAD HJ HS HI HK HT HN HC HIV
    go_wp2_with fail
    exact bodyPost_ret (v := .tuple #[.slice none 0 0, .int .i64 E, .int .i64 K]) (by simp [results, Tryz.results29, go_sem]) rfl (SimuPost.err HE.out HE0.out rfl HB2.out)
  case pos =>
    subst hE0
    obtain ⟨o1, o2, o3, o4⟩ := hok rfl
    obtain ⟨d1, d2, d3, d4⟩ := admit_ok hE.symm
    have hK0 : K = 0 := by rw [hK]; exact d3
    subst hK0
    obtain ⟨t1, t2⟩ := ts_ok HK.out hE.symm
    have hnl := HN.out
    have hn0 : n ≠ 0 := by omega
    rcases HC.out with hc | ⟨tg, rfl, htg, htc⟩
    · exact absurd hc hn0
    have hcl : 0 < code.length := by
      obtain ⟨t, ht⟩ : ∃ t, t ∈ l := by
        cases l with
        | nil => simp at d1
        | cons t r => exact ⟨t, List.mem_cons_self⟩
      obtain ⟨p, _, hp⟩ := t1 t ht
      omega
    obtain ⟨pg, pcap, hpv, _, hpg, hpn, _, hcc⟩ := row_cells o4 (by omega)
    simp only [Value.slice.injEq] at hpv
    obtain ⟨rfl, _, rfl⟩ := hpv
    obtain rfl : pn = n := by omega
    have HNT := hidden (rates_newTurns (ls := loadsT ws l) (tg := tg) (pg := pg) (HS.out.below hb2) HI.out hcl hnl o3 rfl (Nat.lt_of_lt_of_le htg hb2.size) hnc (fun j u hj => (hb2.cell (p := ⟨tg, j, none⟩) htg).trans (htc j u hj)) rfl hpg hpn (fun k hk => by
      have := hcc (k * 3 + 1) (.int .i64 (rankP (loadsT ws l) k : Int)) (by rw [plans_get _ _ _ k 1 hk (by decide)]; rfl)
      exact this) (by unfold loadsT; rw [List.length_map]; exact hnl.symm) t1 ((HJ.out.below hb2).mono hb2.size) HILE.out)
    have HB2 := hidden hb2; have HTS := hidden t2; have HE := hidden hE; have HD3 := hidden d3
    have HT2 := hidden (HT.out.below hb2)
    clear herr hok o4 hcc hpn hpg d4 t1 t2 hE hb2 htc HC HS HJ HAD hK d3 o1 d1 d2 hnl
    go_wp2_with fail
    refine HNT.out.mono ?_
    rintro e w3 ⟨tb, gn, gr, sx, jbs, js, rfl, hT, hjl, hjs, hb3⟩
    have hnl := HN.out
    obtain ⟨H, rfl⟩ : ∃ H : Nat, h = H := ⟨h.toNat, by omega⟩
    obtain ⟨ts, hts⟩ : ∃ ts, ts = tsOf es l := ⟨_, rfl⟩
    obtain ⟨rk, hrk⟩ : ∃ rk, rk = rksP (loadsT ws l) := ⟨_, rfl⟩
    obtain ⟨p0, hp0⟩ : ∃ p0, p0 = simB es nv.toNat l ins := ⟨_, rfl⟩
    have hjn : jbs.length = pn := by omega
    have hI : ∀ k, SimI es code pn nv.toNat k (10 * k) (simP code ts rk pn k p0) := fun k => by
      rw [hts, hp0, hnl]
      exact SimI.sim HK.out.coded HK.out.toAlike (fun t ht => (HTS.out t ht).1) (by rw [← hnl]; exact o3) (simI_begin HAA.out.symm) k
    have hsa : SimAt w2.heap.size w3 tb gn gr code jbs ts rk p0 := by
      rw [hts, hrk, hp0]
      exact ⟨sx, .slice none 0 0, js, hjs, hT⟩
    have hfit : ∀ t ∈ ts, TFit t := fun t ht => (HTS.out t (by rw [← hts]; exact ht)).2
    have htok : ∀ t ∈ ts, TOk es code t := fun t ht => (HTS.out t (by rw [← hts]; exact ht)).1
    have HSI := hidden hI; have HSA := hidden hsa; have HFIT := hidden hfit; have HTOK := hidden htok; have HB3 := hidden hb3
    have HFIN : Hid (simS es code ws nv.toNat l ins H = simP code ts rk pn H p0) := hidden (by rw [hts, hrk, hp0, hnl]; rfl)
    have HG := hidden HT2.out.lt
    have HJN := hidden hjn
    clear hT hjs hI hsa hfit htok hb3 HNT hts hrk hp0 HTS hjl hjn hnl
    go_wp2_with fail
    go_loopw [44] (fun k wr => ∃ q : Nat, q ≤ H ∧ k = .int .i64 q ∧ Hid (SimAt w2.heap.size wr tb gn gr code jbs ts rk (simP code ts rk pn q p0)) ∧ Hid (Below w2.heap.size w2 wr)) (fun k _ => H - (intOf k).toNat)
    case atStart => exact ⟨0, Nat.zero_le _, rfl, HSA, HB3⟩
    case round =>
      clear HSA HB3
      obtain ⟨q, hq, rfl, HQ, HBQ⟩ := hrel
      by_cases hlt : q < H
      · have hqi : (q : Int) < (H : Int) := by omega
        have hiq := HSI.out q
        have hir := hiq.rel (HTOK.out) (q : Int) pn 0 _ _
        have HRE := hidden (sim_release HQ.out (q : Int) HFIT.out (by omega) (by omega) (by have := hiq.le; omega))
        rw [HJN.out] at HRE
        obtain ⟨p1, hp1⟩ : ∃ p1, p1 = relP ts q pn 0 (simP code ts rk pn q p0) := ⟨_, rfl⟩
        rw [← hp1] at HRE hir
        have hnext : simP code ts rk pn (q + 1) p0 = turnP code rk pn q p1 := by rw [hp1]; rfl
        have HNX := hidden hnext; have HIR := hidden hir
        clear hiq hir hp1 hnext
        go_wp2_with fail
        refine HRE.out.mono ?_
        rintro e w4 ⟨rfl, hs4, hb4⟩
        have HB4 := hidden (HBQ.out.trans hb4)
        have HST := hidden (sim_step hs4 (HT2.out.below HB4.out) HG.out (q : Int) (by have := HIR.out.le; omega) (fun i m hm hb => HIR.out.ok HK.out.coded HK.out.toAlike (by omega) hm hb))
        rw [HJN.out, ← HNX.out] at HST
        clear hs4 hb4 HRE HQ HBQ
        go_wp2_with fail
        refine HST.out.mono ?_
        rintro e w5 ⟨rfl, hs5, hb5⟩
        have HB5 := hidden (HB4.out.trans hb5); have HS5 := hidden hs5
        clear hs5 hb5 HST HB4 HIR HNX
        go_wp2_with fail
        go_roundw
        case rel => exact ⟨q + 1, by omega, by go_num, HS5, HB5⟩
        case measure => simp [intOf]; omega
      · obtain rfl : q = H := by omega
        have hji : ¬ (q : Int) < (q : Int) := by omega
        obtain ⟨s5, ev5, js5, _, hT5⟩ := HQ.out
        obtain ⟨va, vc, hev, _, _⟩ := row_shape hT5.erow
        obtain ⟨vn, hvn⟩ : ∃ vn, vn = (simP code ts rk pn q p0).es.length := ⟨_, rfl⟩
        rw [← hvn] at hev
        have c3 : wr.cell? ⟨tb, 3, none⟩ = some (.slice va vn vc) := by rw [← hev]; exact hT5.blk.cell 3 _ rfl
        have htb := hT5.blk.lt
        have hro := hT5.erow
        rw [hev] at hro
        have HRO := hidden hro
        have HSC0 : Hid (simC ws l ins q = (0, 0)) := hidden (by rw [HSC.out]; exact Prod.ext HE.out.symm HD3.out)
        clear hT5 hev hvn hro HQ
        go_wp2_with fail
        refine bodyPost_ret (v := .tuple #[.slice va vn vc, .int .i64 0, .int .i64 0]) (by simp [results, Tryz.results29, go_sem]) rfl ?_
        refine (show SimuPost _ _ _ _ _ _ _ _ _ _ from ⟨⟨va, vn, vc, ?_, fun e => ?_, fun _ => ?_⟩, HB2.out.trans (HBQ.out.mono HB2.out.size)⟩)
        · rw [HSC0.out]; rfl
        · rw [HSC0.out] at e; exact absurd rfl e
        · rw [Int.toNat_natCast, HFIN.out]
          exact own_lower HRO.out HB2.out.size
section
variable {ws : List RW} {l : List TK}
theorem late_none {ls : List (Int × Int)} : ∀ {n k : Nat}, lateP ls l n k = none → ∀ j, k ≤ j → j < k + n → respAt ls l j ≠ 0
  | 0, _, _, j, a, b => by omega
  | n + 1, k, h, j, a, b => by
    unfold lateP at h
    split at h
    · cases h
    · rename_i h0
      rcases Nat.lt_or_ge k j with g | g
      · exact late_none h j (by omega) (by omega)
      · obtain rfl : j = k := by omega
        exact h0
theorem late_some {ls : List (Int × Int)} {q : Nat} : ∀ {n k : Nat}, lateP ls l n k = some q → k ≤ q ∧ q < k + n ∧ respAt ls l q = 0
  | 0, _, h => by cases h
  | n + 1, k, h => by
    unfold lateP at h
    split at h
    · rename_i h0
      obtain rfl := Option.some.inj h
      exact ⟨Nat.le_refl _, by omega, h0⟩
    · obtain ⟨a, b, c⟩ := late_some h
      exact ⟨by omega, by omega, c⟩
theorem admit_resp (h : (admitT ws l).1 = 0) : (∀ t ∈ l, wrongT ws t = 0) ∧ ∀ k, k < l.length → respAt (loadsT ws l) l k ≠ 0 := by
  unfold admitT at h
  by_cases h8 : l.length = 0 ∨ 8 < l.length
  · rw [if_pos h8] at h; exact absurd h (by decide)
  · rw [if_neg h8] at h
    cases hs : scanW ws l 0 with
    | some r =>
      obtain ⟨E, k⟩ := r
      rw [hs] at h
      exact absurd h (scanW_ne hs)
    | none =>
      rw [hs] at h
      simp only at h
      cases hl : lateP (loadsT ws l) l l.length 0 with
      | some k => rw [hl] at h; simp at h
      | none => exact ⟨fun t ht => scanW_none hs t ht, fun k hk => late_none hl k (Nat.zero_le _) (by omega)⟩
theorem resp_ok {ls : List (Int × Int)} {k : Nat} (h : respAt ls l k ≠ 0) : demandT ls k (respAt ls l k) = respAt ls l k ∧ respAt ls l k ≤ (l.getD k default).dl := respG_fix _ _ h
theorem respG_pos {D : Int → Int} {dl : Int} (hD : ∀ r, 1 ≤ r → r ≤ dl → 1 ≤ D r) : ∀ (f : Nat) (r : Int), 1 ≤ r → respG D dl f r ≠ 0 → 1 ≤ respG D dl f r
  | 0, r, _, h => absurd rfl h
  | f + 1, r, hr, h => by
    unfold respG at h ⊢
    split at h
    · rename_i h1
      rw [if_pos h1]
      split at h
      · rename_i h2
        rw [if_pos h2]; exact hr
      · rename_i h2
        rw [if_neg h2]
        exact respG_pos hD f (D r) (hD r hr h1) h
    · exact absurd rfl h
theorem resp_pos {ls : List (Int × Int)} {k : Nat} (hok : ∀ x ∈ ls, LdOk x) (h8 : ls.length ≤ 8) (hk : k < ls.length) (hd : (l.getD k default).dl ≤ 1000000) (h : respAt ls l k ≠ 0) : 1 ≤ respAt ls l k :=
  respG_pos (fun r h1 h2 => (demand_bd hok h8 hk (by omega) (by omega)).1) _ 1 (Int.le_refl _) h
theorem cost_resp {ls : List (Int × Int)} {k : Nat} (hok : ∀ x ∈ ls, LdOk x) (h8 : ls.length ≤ 8) (hk : k < ls.length) (hd : (l.getD k default).dl ≤ 1000000) (h : respAt ls l k ≠ 0) : costAt ls k ≤ respAt ls l k := by
  have h1 := resp_pos hok h8 hk hd h
  obtain ⟨r1, r2⟩ := resp_ok h
  have hw := (within_bd (ahead_ok hok k ls.length (Nat.le_refl _)) (r := respAt ls l k) (by omega) (by omega)).1
  unfold demandT at r1
  omega
theorem loads_at {k : Nat} (hk : k < l.length) : costAt (loadsT ws l) k = (findI ws (l.getD k default).word).1.steps ∧ perAt (loadsT ws l) k = (l.getD k default).per := by
  unfold costAt perAt loadsT
  simp [hk]
theorem goes_T (j i : Nat) (hj : j < l.length) (hi : i < l.length) : goesP (loadsT ws l) j i = goesT l j i := by
  unfold goesP goesT
  rw [(loads_at hj).2, (loads_at hi).2]
theorem first_none (ls : List (Int × Int)) (i : Nat) : ∀ n, (∀ j, j < n → goesP ls j i = false) ↔ aheadP ls i n = []
  | 0 => ⟨fun _ => rfl, fun _ j hj => by omega⟩
  | n + 1 => by
    rw [aheadP]
    constructor
    · intro h
      rw [if_neg (by rw [h n (by omega)]; decide)]
      exact (first_none ls i n).1 fun j hj => h j (by omega)
    · intro h j hj
      split at h
      · simp at h
      · rename_i hg
        rcases Nat.lt_or_ge j n with g | g
        · exact (first_none ls i n).2 h j g
        · obtain rfl : j = n := by omega
          simpa using hg
theorem firstT_iff (i : Nat) : ∀ f k, firstT l i f k = true ↔ ∀ j, k ≤ j → j < k + f → goesT l j i = false
  | 0, k => ⟨fun _ j a b => by omega, fun _ => rfl⟩
  | f + 1, k => by
    unfold firstT
    constructor
    · intro h j a b
      split at h
      · cases h
      · rename_i hg
        rcases Nat.lt_or_ge k j with g | g
        · exact (firstT_iff i f (k + 1)).1 h j (by omega) (by omega)
        · obtain rfl : j = k := by omega
          simpa using hg
    · intro h
      rw [if_neg (by rw [h k (Nat.le_refl _) (by omega)]; decide)]
      exact (firstT_iff i f (k + 1)).2 fun j a b => h j (by omega) (by omega)
theorem first_rank {i : Nat} (hi : i < l.length) : firstT l i l.length 0 = decide (rankP (loadsT ws l) i = 0) := by
  have hll : (loadsT ws l).length = l.length := by unfold loadsT; rw [List.length_map]
  rw [Bool.eq_iff_iff, decide_eq_true_eq, firstT_iff]
  unfold rankP
  rw [hll, List.length_eq_zero_iff, ← first_none]
  constructor
  · intro h j hj
    rw [goes_T j i hj hi]
    exact h j (Nat.zero_le _) (by omega)
  · intro h j _ hj
    rw [← goes_T (ws := ws) j i (by omega) hi]
    exact h j (by omega)
end
section
variable {es : List PE} {code : List Int} {ws : List RW} {l : List TK} {nn : Nat} {ins : List Int}
def spOf (es : List PE) (code : List Int) (ws : List RW) (nn : Nat) (l : List TK) (ins : List Int) : SP := ⟨code, tsOf es l, rksP (loadsT ws l), l.length, simB es nn l ins⟩
theorem spOf_at (h : Nat) : (spOf es code ws nn l ins).at_ h = simS es code ws nn l ins h := rfl
theorem wrong_fits {t : TK} (h : wrongT ws t = 0) : (findI ws t.word).2 = 0 ∧ t.Fits ∧ (findI ws t.word).1.need ≤ 0 ∧ (findI ws t.word).1.high ≤ 32 := by
  unfold wrongT at h
  split at h
  · rename_i e; exact absurd h e
  · rename_i e
    split at h
    · exact absurd h (by decide)
    · rename_i e2
      split at h
      · exact absurd h (by decide)
      · rename_i e3
        exact ⟨Classical.byContradiction e, Classical.byContradiction e2, by omega, by omega⟩
theorem sok {nv nt : Int} (hk : Alk es code ws) (hi : LInv es nv nt code) (hb : WsB ws) (ha : (admitT ws l).1 = 0) (hc : areC ins = true) : SOk (spOf es code ws nn l ins) (fun i => (costAt (loadsT ws l) i).toNat) es ws nn ∧ Fit8 (spOf es code ws nn l ins) (fun i => (costAt (loadsT ws l) i).toNat) (loadsT ws l) := by
  obtain ⟨a1, a2, a3, a4⟩ := admit_ok ha
  obtain ⟨b1, b2⟩ := admit_resp ha
  have hll : (loadsT ws l).length = l.length := by unfold loadsT; rw [List.length_map]
  have hcost : ∀ k, k < l.length → 1 ≤ costAt (loadsT ws l) k ∧ costAt (loadsT ws l) k ≤ 1000000 := fun k hkl => by
    have hok := loads_ok hk.toAlike b1
    have h1 := ld_at hok (k := k) (by omega)
    obtain ⟨r1, r2⟩ := resp_ok (b2 k hkl)
    have hf := (wrong_fits (b1 l[k] (List.getElem_mem hkl))).2.1
    have e : l.getD k default = l[k] := by simp [hkl]
    rw [e] at r2
    obtain ⟨f1, f2, f3, f4, _⟩ := hf
    have hdl : (l.getD k default).dl ≤ 1000000 := by rw [e]; omega
    have hcr := cost_resp hok (by omega) (by omega) hdl (b2 k hkl)
    exact ⟨h1.1, by omega⟩
  refine ⟨⟨hk.coded, hk.toAlike, a2, by simp [spOf, tsOf], fun i t ht => ?_, simI_begin hc, fun i => ?_⟩, ⟨hll, rfl, fun j hj => ?_, fun j t ht => ?_⟩⟩
  · have hil : i < l.length := by
      have := (List.getElem?_eq_some_iff.1 ht).1
      simpa [spOf, tsOf] using this
    have hts : t = ⟨l[i].word, l[i].per, l[i].dl, l[i].off, ((startOf (lastP es l[i].word es.length)).getD 0).toNat⟩ := by
      have : (tsOf es l)[i]? = some t := ht
      unfold tsOf at this
      rw [List.getElem?_map, List.getElem?_eq_getElem hil] at this
      exact (Option.some.inj this).symm
    obtain ⟨w1, w2, w3, w4⟩ := wrong_fits (b1 l[i] (List.getElem_mem hil))
    rcases start_both hk.coded hk.toAlike l[i].word with ⟨_, e2⟩ | ⟨k, p, q, y, e1, e2, e3, e4, e5, e6, e7, e8⟩
    · omega
    · obtain ⟨_, _, hown⟩ := hb.okU (fun _ _ h => h) k y e2
      obtain ⟨lx, ho⟩ := hown (by omega)
      have hinf : (findI ws l[i].word).1 = y.inf := by
        unfold findI
        rw [if_neg (by omega), e1]
        simp only [Int.toNat_natCast, e2]
        rw [if_neg (by omega)]
      rw [hinf] at w3 w4
      have hco : costAt (loadsT ws l) i = y.inf.steps := by rw [(loads_at hil).1, show l.getD i default = l[i] by simp [hil], hinf]
      have hst : t.st = p := by rw [hts]; simp [e4]
      refine ⟨y, q, by rw [hst]; exact e7, e8, by rw [hst]; exact e6, ?_⟩
      rw [hco]
      exact left_word ho w3 w4 (by rw [← hco]; exact (hcost i hil).2)
  · show (List.replicate l.length false).getD i false = false
    simp only [List.getD_eq_getElem?_getD, List.getElem?_replicate]
    split <;> rfl
  · have := (hcost j hj).1
    show ((costAt (loadsT ws l) j).toNat : Int) = _
    omega
  · have hil : j < l.length := by
      have := (List.getElem?_eq_some_iff.1 ht).1
      simpa [spOf, tsOf] using this
    have hts : (tsOf es l)[j]? = some t := ht
    unfold tsOf at hts
    rw [List.getElem?_map, List.getElem?_eq_getElem hil] at hts
    obtain rfl := Option.some.inj hts
    obtain ⟨_, ⟨f1, _⟩, _⟩ := wrong_fits (b1 l[j] (List.getElem_mem hil))
    rw [(loads_at hil).2, show l.getD j default = l[j] by simp [hil]]
    exact ⟨rfl, f1⟩
end
def allT (ws : List RW) (l : List TK) : Nat → Int
  | 0 => 0
  | k + 1 => allT ws l k + (findI ws (l.getD k default).word).1.steps
def leastT (l : List TK) : Nat → Int
  | 0 => (l.getD 0 default).dl
  | k + 1 => min (leastT l k) (l.getD k default).dl
theorem keep_late {w : World} {bb tg n tc : Nat} {R : List PE × Int × Int × List Int} {ws : List RW} {l : List TK} (hs : KSys w bb R ws) (h : TsAt w tg l) (hn : n = l.length) (hn0 : 0 < n) (hnc : n ≤ tc) (h8 : n ≤ 8) (i : Nat) (hi : i < n)
    (hf : firstT l i n 0 = false) (hc : ∀ k, k < n → 0 ≤ (findI ws (l.getD k default).word).1.steps ∧ (findI ws (l.getD k default).word).1.steps ≤ 1000000000) (hd : ∀ k, k < n → 0 ≤ (l.getD k default).dl ∧ (l.getD k default).dl ≤ 1000000) :
    Calls Tryz.prog 30 #[.pointer (some ⟨bb, 0, none⟩), .slice (some ⟨tg, 0, none⟩) n tc, .int .i64 i] w fun e w' => e = .returned (.bool (decide (leastT l n < allT ws l n))) ∧ Below w.heap.size w w' := by
  have HF := hidden (keep_first h hn hnc h8 i hi)
  rw [hf] at HF
  have hii : (i : Int) < (n : Int) := by omega
  have hi0 : ¬ (i : Int) < 0 := by omega
  have hni : decide (n ≤ i) = false := decide_eq_false (by omega)
  have HS := hidden hs; have HH := hidden h; have HN := hidden hn; have HC := hidden hc; have HD := hidden hd
  clear hs h hn hf hc hd
  go_enter Tryz.func30, Tryz.ntmps30
  go_wp2_with fail
  refine HF.out.mono ?_
  rintro e w1 ⟨rfl, hb1⟩
  have HB1 := hidden hb1
  have hT1 := HH.out.below hb1
  obtain ⟨_, _, a2, _⟩ := hT1.get (k := 0) (by have := HN.out; omega)
  obtain ⟨d0, hd0⟩ : ∃ d, d = (l.getD 0 default).dl := ⟨_, rfl⟩
  rw [← hd0, Nat.zero_mul, Nat.zero_add] at a2
  have htg1 := hT1.1
  have HD0 : Hid (d0 = leastT l 0) := hidden hd0
  clear hb1 hT1 hd0 HF
  go_wp2_with fail
  go_loopw [7, 8, 9] (fun al le k wr => ∃ (q : Nat) (a b : Int), q ≤ n ∧ al = .int .i64 a ∧ le = .int .i64 b ∧ k = .int .i64 q ∧ Hid (a = allT ws l q) ∧ Hid (b = leastT l q) ∧ (0 ≤ a ∧ a ≤ (q : Int) * 1000000000) ∧ (0 ≤ b ∧ b ≤ 1000000) ∧ Hid (Below w.heap.size w wr)) (fun _ _ k _ => n - (intOf k).toNat)
  case atStart =>
    have h0 := HD.out 0 hn0
    refine ⟨0, 0, d0, Nat.zero_le _, rfl, rfl, rfl, hidden rfl, HD0, ⟨Int.le_refl _, by omega⟩, ?_, HB1⟩
    rw [HD0.out]; exact h0
  case round =>
    clear HD0 HB1 a2
    obtain ⟨q, a, b, hq, rfl, rfl, rfl, HA, HBB, ha, hbb, HB⟩ := hrel
    by_cases hlt : q < n
    · have hqi : (q : Int) < (n : Int) := by omega
      have hT := HH.out.below HB.out
      obtain ⟨c0, _, c2, _⟩ := hT.get (k := q) (by rw [← HN.out]; exact hlt)
      obtain ⟨t, ht⟩ : ∃ t, t = l.getD q default := ⟨_, rfl⟩
      rw [← ht] at c0 c2
      have hS := HS.out.below HB.out
      obtain ⟨ev, cv, hsys⟩ := hS.sys
      have HFD := hidden (forth_find t.word hsys (by have := hS.inv.l; omega))
      rw [find_eq hS.alk.toAlike] at HFD
      obtain ⟨nd, net, hg, st, str, hI⟩ : ∃ nd net hg st str, (findI ws t.word).1 = ⟨nd, net, hg, st, str⟩ := ⟨_, _, _, _, _, rfl⟩
      rw [hI] at HFD
      simp only [Inf.val] at HFD
      generalize (findI ws t.word).2 = er at HFD
      have hst : (findI ws t.word).1.steps = st := by rw [hI]
      have hcq := HC.out q hlt
      have hdq := HD.out q hlt
      rw [← ht] at hcq hdq
      rw [hst] at hcq
      have HAN : Hid (allT ws l (q + 1) = a + st) := hidden (by rw [allT, ← ht, hst, HA.out])
      have HBN : Hid (leastT l (q + 1) = min b t.dl) := hidden (by rw [leastT, ← ht, HBB.out])
      have htgr := hT.1
      have hq8 : (q : Int) * 1000000000 ≤ 8000000000 := by omega
      have HT := hidden hT
      clear ht hS hsys hI hst hT HA HBB
      go_wp2_with fail
      refine HFD.out.mono ?_
      rintro e w3 ⟨rfl, hb3⟩
      have hT3 := HT.out.below hb3
      obtain ⟨X, hX⟩ : ∃ X : World, X = w3.alloc (.cells #[.int .i64 nd, .int .i64 net, .int .i64 hg, .int .i64 st, .bool str] 36 (0, 0)) := ⟨_, rfl⟩
      obtain ⟨kb, hkb⟩ : ∃ kb, kb = w3.heap.size := ⟨_, rfl⟩
      have hbX : Below w3.heap.size w3 X := by rw [hX]; exact (Below.refl _ _).alloc (Nat.le_refl _) _
      have hkX : Blk X kb #[.int .i64 nd, .int .i64 net, .int .i64 hg, .int .i64 st, .bool str] 36 := by rw [hX, hkb]; exact blk_new w3 _ _
      have z3 : X.cell? ⟨kb, 3, none⟩ = some (.int .i64 st) := hkX.cell 3 _ rfl
      have hkl := hkX.lt
      have z2 : X.cell? ⟨tg, q * 4 + 2, none⟩ = some (.int .i64 t.dl) := ((Below.trans hb3 (hbX.mono hb3.size)).cell (p := ⟨tg, q * 4 + 2, none⟩) htgr).trans c2
      have htgX : tg < X.heap.size := Nat.lt_of_lt_of_le hT3.1 hbX.size
      have HBX := hidden (HB.out.trans ((hb3.trans (hbX.mono hb3.size)).mono HB.out.size))
      have HX := hidden hX; have HKB := hidden hkb
      clear hb3 hT3 hX hkb hbX hkX HFD c0 c2 HB HT
      go_upto_region 9 with fail
      rw [← HX.out, ← HKB.out]
      go_wp2_with fail
      go_roundw
      case rel => exact ⟨q + 1, a + st, min b t.dl, by omega, by go_num, by go_num, by go_num, hidden HAN.out.symm, hidden HBN.out.symm, by omega, by omega, HBX⟩
      case measure => simp [intOf]; omega
    · obtain rfl : q = n := by omega
      have hji : ¬ (q : Int) < (q : Int) := by omega
      go_wp2_with fail
      go_ret
      refine ⟨?_, HB.out⟩
      rw [← HA.out, ← HBB.out]; rfl
theorem resp_const {D : Int → Int} {dl M c : Int} (h : ∀ r, 1 ≤ r → r ≤ M → D r = c) (h1 : 1 ≤ c) (h2 : c ≤ M) (h3 : M ≤ dl) : respT D dl ≠ 0 := by
  unfold respT
  obtain ⟨f, hf⟩ : ∃ f, dl.toNat + 1 = f + 1 + 1 := ⟨dl.toNat - 1, by omega⟩
  rw [hf, respG, if_pos (by omega), h 1 (Int.le_refl _) (by omega)]
  split
  · decide
  · rw [respG, if_pos (by omega), h c h1 h2, if_pos rfl]; omega
def sumC : List (Int × Int) → Int
  | [] => 0
  | x :: l => x.1 + sumC l
theorem sumC_append (a b : List (Int × Int)) : sumC (a ++ b) = sumC a + sumC b := by
  induction a with
  | nil => simp [sumC]
  | cons x a ih => simp only [List.cons_append, sumC, ih]; omega
theorem within_once {r : Int} : ∀ (l : List (Int × Int)), (∀ x ∈ l, 1 ≤ r ∧ r ≤ x.2) → within r l = sumC l
  | [], _ => rfl
  | x :: l, h => by
    obtain ⟨h1, h2⟩ := h x List.mem_cons_self
    have e : (r + x.2 - 1) / x.2 = 1 := by
      have h3 : r + x.2 - 1 = (r - 1) + x.2 * 1 := by omega
      rw [h3, Int.add_mul_ediv_left _ _ (by omega), Int.ediv_eq_zero_of_lt (by omega) (by omega)]
      rfl
    show x.1 * ((r + x.2 - 1) / x.2) + within r l = _
    rw [e, within_once l (fun y hy => h y (List.mem_cons_of_mem _ hy)), sumC]
    omega
section
variable {ws : List RW} {l : List TK}
theorem ahead_sum {k : Nat} (hc : ∀ j, j < l.length → 0 ≤ costAt (loadsT ws l) j) : ∀ m, m ≤ l.length → (if k < m then costAt (loadsT ws l) k else 0) + sumC (aheadP (loadsT ws l) k m) ≤ allT ws l m
  | 0, _ => by simp [aheadP, sumC, allT]
  | m + 1, hm => by
    have ih := ahead_sum (k := k) hc m (by omega)
    have hcm := hc m (by omega)
    have e : (findI ws (l.getD m default).word).1.steps = costAt (loadsT ws l) m := (loads_at (by omega)).1.symm
    rw [allT, e, aheadP]
    by_cases hkm : k = m
    · subst hkm
      rw [if_pos (show k < k + 1 by omega), if_neg (show ¬ goesP (loadsT ws l) k k = true by rw [goes_irr]; decide)]
      rw [if_neg (show ¬ k < k by omega)] at ih
      omega
    · have e2 : (if k < m + 1 then costAt (loadsT ws l) k else 0) = (if k < m then costAt (loadsT ws l) k else 0) := by
        by_cases g : k < m
        · rw [if_pos (by omega), if_pos g]
        · rw [if_neg (by omega), if_neg g]
      rw [e2]
      generalize (if k < m then costAt (loadsT ws l) k else 0) = ck at ih ⊢
      by_cases hg : goesP (loadsT ws l) m k = true
      · rw [if_pos hg, sumC_append]
        simp only [sumC]
        omega
      · rw [if_neg hg]; omega
theorem least_le : ∀ m j, j < m → leastT l m ≤ (l.getD j default).dl
  | 0, j, h => by omega
  | m + 1, j, h => by
    rw [leastT]
    rcases Nat.lt_or_ge j m with g | g
    · have := least_le m j g; omega
    · obtain rfl : j = m := by omega
      omega
theorem late_why {k : Nat} (hw : ∀ t ∈ l, wrongT ws t = 0) (hlo : ∀ x ∈ loadsT ws l, LdOk x) (hd : ∀ j, j < l.length → costAt (loadsT ws l) j ≤ (l.getD j default).dl) (hk : k < l.length) (h : respAt (loadsT ws l) l k = 0) : firstT l k l.length 0 = false ∧ leastT l l.length < allT ws l l.length := by
  have hll : (loadsT ws l).length = l.length := by unfold loadsT; rw [List.length_map]
  have hck := ld_at hlo (k := k) (by omega)
  have hget : ∀ j, j < l.length → (l.getD j default).Fits := fun j hj => by
    rw [show l.getD j default = l[j] by simp [hj]]
    exact (wrong_fits (hw l[j] (List.getElem_mem hj))).2.1
  refine ⟨?_, ?_⟩
  · cases hf : firstT l k l.length 0 with
    | false => rfl
    | true =>
      exfalso
      rw [first_rank (ws := ws) hk] at hf
      have hr := of_decide_eq_true hf
      unfold rankP at hr
      have ha : aheadP (loadsT ws l) k (loadsT ws l).length = [] := List.length_eq_zero_iff.1 hr
      refine resp_const (M := (l.getD k default).dl) (c := costAt (loadsT ws l) k) (fun r _ _ => ?_) hck.1 (hd k hk) (Int.le_refl _) h
      unfold demandT
      rw [ha]
      simp [within]
  · rcases Int.lt_or_le (leastT l l.length) (allT ws l l.length) with g | g
    · exact g
    · exfalso
      have hs := ahead_sum (ws := ws) (l := l) (k := k) (fun j hj => by have := (ld_at hlo (k := j) (by omega)).1; simp only at this; omega) l.length (Nat.le_refl _)
      rw [if_pos hk] at hs
      refine resp_const (M := leastT l l.length) (c := costAt (loadsT ws l) k + sumC (aheadP (loadsT ws l) k l.length)) (fun r h1 h2 => ?_) ?_ (by omega) (least_le _ k hk) h
      · unfold demandT
        rw [hll, within_once]
        intro x hx
        rw [ahead_map] at hx
        obtain ⟨j, hj, rfl⟩ := List.mem_map.1 hx
        have hjl := (aheadN_mem.1 hj).1
        have hle := least_le (l := l) l.length j hjl
        have hfit := hget j hjl
        obtain ⟨_, _, _, f4, _⟩ := hfit
        refine ⟨h1, ?_⟩
        show r ≤ perAt (loadsT ws l) j
        rw [(loads_at hjl).2]
        omega
      · have : 0 ≤ sumC (aheadP (loadsT ws l) k l.length) := by
          have hah := ahead_ok hlo k l.length (by omega)
          have : ∀ L : List (Int × Int), (∀ x ∈ L, LdOk x) → 0 ≤ sumC L := by
            intro L
            induction L with
            | nil => intro _; exact Int.le_refl _
            | cons x L ih =>
              intro hL
              have a := (hL x List.mem_cons_self).1
              have b := ih (fun y hy => hL y (List.mem_cons_of_mem _ hy))
              simp only [sumC]; omega
          exact this _ hah
        have h1 := hck.1
        simp only at h1
        omega
end
end Go.Proofs.YtcphhbofjkenaaaGreatDoor
