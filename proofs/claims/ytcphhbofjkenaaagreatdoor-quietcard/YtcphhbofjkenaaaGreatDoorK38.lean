import Derived.Test.YtcphhbofjkenaaaGreatDoorK28
import Derived.Test.YtcphhbofjkenaaaGreatDoorK33
import Derived.Test.YtcphhbofjkenaaaGreatDoorK34
import Derived.Test.YtcphhbofjkenaaaGreatDoorK37

namespace Go.Proofs.YtcphhbofjkenaaaGreatDoor
open Go Go.RowKit
set_option linter.unusedVariables false
set_option linter.unusedSimpArgs false

def simC (ws : List RW) (l : List TK) (ins : List Int) (h : Int) : Int × Nat := if 0 ≤ h ∧ h ≤ 100000 ∧ areC ins = true then admitT ws l else (1, 0)
def simB (es : List PE) (nn : Nat) (l : List TK) (ins : List Int) : PS := ⟨(tsOf es l).map (fun t => beginM t.st), List.replicate l.length false, ⟨List.replicate nn 0, [], ins⟩, []⟩
def simS (es : List PE) (code : List Int) (ws : List RW) (nn : Nat) (l : List TK) (ins : List Int) (h : Nat) : PS := simP code (tsOf es l) (rksP (loadsT ws l)) l.length h (simB es nn l ins)
def SimuPost (w : World) (es : List PE) (code : List Int) (ws : List RW) (nn : Nat) (l : List TK) (ins : List Int) (h : Int) (e : Ending) (w' : World) : Prop :=
  (∃ va vn vc, e = .returned (.tuple #[.slice va vn vc, .int .i64 (simC ws l ins h).1, .int .i64 (simC ws l ins h).2]) ∧ ((simC ws l ins h).1 ≠ 0 → va = none ∧ vn = 0 ∧ vc = 0) ∧ ((simC ws l ins h).1 = 0 → ERow w.heap.size w' (.slice va vn vc) (simS es code ws nn l ins h.toNat).es)) ∧ Below w.heap.size w w'
theorem SimuPost.err {w w' : World} {es : List PE} {code : List Int} {ws : List RW} {nn : Nat} {l : List TK} {ins : List Int} {h : Int} {e : Ending} {E : Int} {K : Nat} (hs : simC ws l ins h = (E, K)) (h0 : E ≠ 0) (he : e = .returned (.tuple #[.slice none 0 0, .int .i64 E, .int .i64 K])) (hb : Below w.heap.size w w') : SimuPost w es code ws nn l ins h e w' := by
  refine ⟨⟨none, 0, 0, ?_, fun _ => ⟨rfl, rfl, rfl⟩, fun e => ?_⟩, hb⟩
  · rw [hs]; exact he
  · rw [hs] at e; exact absurd e h0

theorem scanW_ne {ws : List RW} : ∀ {l : List TK} {k : Nat} {E : Int} {j : Nat}, scanW ws l k = some (E, j) → E ≠ 0
  | [], _, _, _, h => by cases h
  | t :: r, k, E, j, h => by
    unfold scanW at h
    split at h
    · rename_i hx
      injection h with h
      injection h with h1 h2
      rw [← h1]; exact hx
    · exact scanW_ne h
theorem own_lower {B C : Nat} {w : World} {e : TypeId} {size n : Nat} {v : Value} {xs : List Value} (h : w.ownsRow B e size v n xs) (hb : C ≤ B) : w.ownsRow C e size v n xs := by
  refine ⟨h.1, ?_⟩
  rcases h.2 with h | ⟨g, cap, cur, h1, h2, h3⟩
  · exact Or.inl h
  · exact Or.inr ⟨g, cap, cur, h1, Nat.le_trans hb h2, h3⟩
theorem admit_ok {ws : List RW} {l : List TK} (h : (admitT ws l).1 = 0) : 0 < l.length ∧ l.length ≤ 8 ∧ (admitT ws l).2 = 0 ∧ (∀ t ∈ l, (findI ws t.word).2 = 0 ∧ t.Fits) := by
  unfold admitT at h ⊢
  by_cases h8 : l.length = 0 ∨ 8 < l.length
  · rw [if_pos h8] at h; exact absurd h (by decide)
  · rw [if_neg h8] at h ⊢
    cases hs : scanW ws l 0 with
    | some r =>
      exfalso
      obtain ⟨E, k⟩ := r
      rw [hs] at h
      simp only at h
      exact scanW_ne hs h
    | none =>
      rw [hs] at h
      simp only at h ⊢
      refine ⟨by omega, by omega, ?_, fun t ht => ?_⟩
      · split at h
        · simp at h
        · rfl
      · have := scanW_none hs t ht
        unfold wrongT at this
        split at this
        · rename_i e; exact absurd this e
        · rename_i e
          split at this
          · exact absurd this (by decide)
          · rename_i e2
            exact ⟨Classical.byContradiction e, Classical.byContradiction e2⟩

section
variable {es : List PE} {code : List Int} {ws : List RW} {nn : Nat} {l : List TK} {ins : List Int}
theorem ts_ok (hk : Alk es code ws) (h : (admitT ws l).1 = 0) : (∀ t ∈ l, ∃ p : Nat, startOf (lastP es t.word es.length) = some (p : Int) ∧ p < code.length) ∧ (∀ t ∈ tsOf es l, TOk es code t ∧ TFit t) := by
  have key : ∀ t ∈ l, ∃ (p q : Nat) (y : RW), startOf (lastP es t.word es.length) = some (p : Int) ∧ p < code.length ∧ CList es code false y.its p q ∧ code[q]? = some 34 := fun t ht => by
    obtain ⟨_, _, _, ha⟩ := admit_ok h
    rcases start_both hk.coded hk.toAlike t.word with ⟨_, e2⟩ | ⟨k, p, q, y, e1, e2, e3, e4, e5, e6, e7, e8⟩
    · have := (ha t ht).1; omega
    · exact ⟨p, q, y, e4, e6, e7, e8⟩
  refine ⟨fun t ht => ?_, fun t ht => ?_⟩
  · obtain ⟨p, q, y, a, b, _⟩ := key t ht
    exact ⟨p, a, b⟩
  · obtain ⟨t0, ht0, rfl⟩ := List.mem_map.1 ht
    obtain ⟨p, q, y, a, b, c, d⟩ := key t0 ht0
    obtain ⟨_, _, _, ha⟩ := admit_ok h
    obtain ⟨_, f1, f2, f3, f4, f5, f6⟩ := ha t0 ht0
    refine ⟨⟨y, q, ?_, d, ?_⟩, f1, f2, f5, f6⟩
    · simp only [a, Option.getD_some, Int.toNat_natCast]; exact c
    · simp only [a, Option.getD_some, Int.toNat_natCast]; exact b
theorem simI_begin (hc : areC ins = true) : SimI es code l.length nn 0 0 (simB es nn l ins) := by
  refine ⟨by simp [simB, tsOf], by simp [simB], rfl, by simp [simB], fun a ha => ?_, areC_cell hc, Nat.le_refl _, fun i m hm hb => ?_⟩
  · rw [(List.mem_replicate.1 ha).2]; exact ⟨by omega, by omega⟩
  · simp only [simB, List.getD_eq_getElem?_getD, List.getElem?_replicate] at hb
    split at hb <;> simp at hb
end

set_option maxRecDepth 100000 in
set_option maxHeartbeats 600000 in
theorem rates_simulate {w : World} {bb : Nat} {ev cv : Value} {es : List PE} {nv nt : Int} {code : List Int} {ws : List RW} {ins : List Int} {iv : Value} (l : List TK) (ta : Option Addr) (n tc : Nat) (h : Int) (hs : PSys w bb ev cv es nv nt code) (hi : LInv es nv nt code) (hk : Alk es code ws) (ht : Tab w)
    (hn : n = l.length) (hnc : n ≤ tc) (hnb : n ≤ 1100000) (hc : n = 0 ∨ ∃ tg, ta = some ⟨tg, 0, none⟩ ∧ tg < w.heap.size ∧ ∀ (j : Nat) (u : Value), (l.flatMap TK.cells)[j]? = some u → w.cell? ⟨tg, j, none⟩ = some u)
    (hj : InsAt w.heap.size w iv ins) (hil : ins.length ≤ 17592186043904) :
    Calls Tryz.prog 29 #[.pointer (some ⟨bb, 0, none⟩), .slice ta n tc, iv, .int .i64 h] w (SimuPost w es code ws nv.toNat l ins h) := by
  have HA := hidden (mach_areCells hj (Nat.le_refl _) hil)
  have HAD := hidden (rates_admit l ta n tc hs (by have := hi.l; omega) hk.toAlike hn hnc hnb hc)
  obtain ⟨ia, ic, hiv⟩ := insAt_len hj
  have HJ := hidden hj; have HS := hidden hs; have HI := hidden hi; have HK := hidden hk; have HT := hidden ht; have HN := hidden hn; have HC := hidden hc
  have HIV := hidden hiv
  clear hj hs hi hk ht hn hc
  obtain ⟨il, hile⟩ : ∃ il, il = ins.length := ⟨_, rfl⟩
  rw [← hile] at hiv
  have HILE := hidden (show ins.length ≤ 17592186043904 from hil)
  clear hile hil
  subst hiv
  by_cases h0 : h < 0
  · have HE : Hid (simC ws l ins h = (1, 0)) := hidden (by unfold simC; rw [if_neg (by omega)])
    clear HA HAD HJ HS HI HK HT HN HC HIV
    go_enter Tryz.func29, Tryz.ntmps29
    go_wp2_with fail
    exact bodyPost_ret (v := .tuple #[.slice none 0 0, .int .i64 1, .int .i64 0]) (by simp [results, Tryz.results29, go_sem]) rfl (SimuPost.err HE.out (by decide) rfl (Below.refl _ _))
  by_cases h1 : 100000 < h
  · have HE : Hid (simC ws l ins h = (1, 0)) := hidden (by unfold simC; rw [if_neg (by omega)])
    clear HA HAD HJ HS HI HK HT HN HC HIV
    go_enter Tryz.func29, Tryz.ntmps29
    go_wp2_with fail
    exact bodyPost_ret (v := .tuple #[.slice none 0 0, .int .i64 1, .int .i64 0]) (by simp [results, Tryz.results29, go_sem]) rfl (SimuPost.err HE.out (by decide) rfl (Below.refl _ _))
  obtain ⟨A, hA⟩ : ∃ A, A = areC ins := ⟨_, rfl⟩
  rw [← hA] at HA
  have HAA := hidden hA
  clear hA
  go_enter Tryz.func29, Tryz.ntmps29
  go_wp2_with fail
  refine HA.out.mono ?_
  rintro e w' ⟨rfl, rfl⟩
  clear HA
  cases A
  · have HE : Hid (simC ws l ins h = (1, 0)) := hidden (by unfold simC; rw [if_neg (by rw [← HAA.out]; simp)])
    go_wp2_with fail
    exact bodyPost_ret (v := .tuple #[.slice none 0 0, .int .i64 1, .int .i64 0]) (by simp [results, Tryz.results29, go_sem]) rfl (SimuPost.err HE.out (by decide) rfl (Below.refl _ _))
  have HSC : Hid (simC ws l ins h = admitT ws l) := hidden (by unfold simC; rw [if_pos ⟨by omega, by omega, HAA.out.symm⟩])
  go_wp2_with fail
  refine HAD.out.mono ?_
  rintro e w2 ⟨⟨pa, pn, pc, rfl, herr, hok⟩, hb2⟩
  obtain ⟨E, hE⟩ : ∃ E, E = (admitT ws l).1 := ⟨_, rfl⟩
  obtain ⟨K, hK⟩ : ∃ K, K = (admitT ws l).2 := ⟨_, rfl⟩
  rw [← hE] at herr hok
  rw [← hE, ← hK]
  by_cases hE0 : E = 0
  case neg =>
    obtain ⟨rfl, rfl, rfl⟩ := herr hE0
    have hx : (E != 0) = true := by simpa using hE0
    have HE : Hid (simC ws l ins h = (E, K)) := hidden (by rw [HSC.out, hE, hK])
    have HB2 := hidden hb2; have HE0 := hidden hE0
    clear herr hok hE hK hb2 hE0 HAD HJ HS HI HK HT HN HC HIV
    go_wp2_with fail
    exact bodyPost_ret (v := .tuple #[.slice none 0 0, .int .i64 E, .int .i64 K]) (by simp [results, Tryz.results29, go_sem]) rfl (SimuPost.err HE.out HE0.out rfl HB2.out)
  case pos =>
    subst hE0
    obtain ⟨o1, o2, o3, o4⟩ := hok rfl
    obtain ⟨d1, d2, d3, d4⟩ := admit_ok hE.symm
    have hK0 : K = 0 := by rw [hK]; exact d3
    subst hK0
    obtain ⟨t1, t2⟩ := ts_ok HK.out hE.symm
    have hnl := HN.out
    have hn0 : n ≠ 0 := by omega
    rcases HC.out with hc | ⟨tg, rfl, htg, htc⟩
    · exact absurd hc hn0
    have hcl : 0 < code.length := by
      obtain ⟨t, ht⟩ : ∃ t, t ∈ l := by
        cases l with
        | nil => simp at d1
        | cons t r => exact ⟨t, List.mem_cons_self⟩
      obtain ⟨p, _, hp⟩ := t1 t ht
      omega
    obtain ⟨pg, pcap, hpv, _, hpg, hpn, _, hcc⟩ := row_cells o4 (by omega)
    simp only [Value.slice.injEq] at hpv
    obtain ⟨rfl, _, rfl⟩ := hpv
    obtain rfl : pn = n := by omega
    have HNT := hidden (rates_newTurns (ls := loadsT ws l) (tg := tg) (pg := pg) (HS.out.below hb2) HI.out hcl hnl o3 rfl (Nat.lt_of_lt_of_le htg hb2.size) hnc (fun j u hj => (hb2.cell (p := ⟨tg, j, none⟩) htg).trans (htc j u hj)) rfl hpg hpn (fun k hk => by
      have := hcc (k * 3 + 1) (.int .i64 (rankP (loadsT ws l) k : Int)) (by rw [plans_get _ _ _ k 1 hk (by decide)]; rfl)
      exact this) (by unfold loadsT; rw [List.length_map]; exact hnl.symm) t1 ((HJ.out.below hb2).mono hb2.size) HILE.out)
    have HB2 := hidden hb2; have HTS := hidden t2; have HE := hidden hE; have HD3 := hidden d3
    have HT2 := hidden (HT.out.below hb2)
    clear herr hok o4 hcc hpn hpg d4 t1 t2 hE hb2 htc HC HS HJ HAD hK d3 o1 d1 d2 hnl
    go_wp2_with fail
    refine HNT.out.mono ?_
    rintro e w3 ⟨tb, gn, gr, sx, jbs, js, rfl, hT, hjl, hjs, hb3⟩
    have hnl := HN.out
    obtain ⟨H, rfl⟩ : ∃ H : Nat, h = H := ⟨h.toNat, by omega⟩
    obtain ⟨ts, hts⟩ : ∃ ts, ts = tsOf es l := ⟨_, rfl⟩
    obtain ⟨rk, hrk⟩ : ∃ rk, rk = rksP (loadsT ws l) := ⟨_, rfl⟩
    obtain ⟨p0, hp0⟩ : ∃ p0, p0 = simB es nv.toNat l ins := ⟨_, rfl⟩
    have hjn : jbs.length = pn := by omega
    have hI : ∀ k, SimI es code pn nv.toNat k (10 * k) (simP code ts rk pn k p0) := fun k => by
      rw [hts, hp0, hnl]
      exact SimI.sim HK.out.coded HK.out.toAlike (fun t ht => (HTS.out t ht).1) (by rw [← hnl]; exact o3) (simI_begin HAA.out.symm) k
    have hsa : SimAt w2.heap.size w3 tb gn gr code jbs ts rk p0 := by
      rw [hts, hrk, hp0]
      exact ⟨sx, .slice none 0 0, js, hjs, hT⟩
    have hfit : ∀ t ∈ ts, TFit t := fun t ht => (HTS.out t (by rw [← hts]; exact ht)).2
    have htok : ∀ t ∈ ts, TOk es code t := fun t ht => (HTS.out t (by rw [← hts]; exact ht)).1
    have HSI := hidden hI; have HSA := hidden hsa; have HFIT := hidden hfit; have HTOK := hidden htok; have HB3 := hidden hb3
    have HFIN : Hid (simS es code ws nv.toNat l ins H = simP code ts rk pn H p0) := hidden (by rw [hts, hrk, hp0, hnl]; rfl)
    have HG := hidden HT2.out.lt
    have HJN := hidden hjn
    clear hT hjs hI hsa hfit htok hb3 HNT hts hrk hp0 HTS hjl hjn hnl
    go_wp2_with fail
    go_loopw [44] (fun k wr => ∃ q : Nat, q ≤ H ∧ k = .int .i64 q ∧ Hid (SimAt w2.heap.size wr tb gn gr code jbs ts rk (simP code ts rk pn q p0)) ∧ Hid (Below w2.heap.size w2 wr)) (fun k _ => H - (intOf k).toNat)
    case atStart => exact ⟨0, Nat.zero_le _, rfl, HSA, HB3⟩
    case round =>
      clear HSA HB3
      obtain ⟨q, hq, rfl, HQ, HBQ⟩ := hrel
      by_cases hlt : q < H
      · have hqi : (q : Int) < (H : Int) := by omega
        have hiq := HSI.out q
        have hir := hiq.rel (HTOK.out) (q : Int) pn 0 _ _
        have HRE := hidden (sim_release HQ.out (q : Int) HFIT.out (by omega) (by omega) (by have := hiq.le; omega))
        rw [HJN.out] at HRE
        obtain ⟨p1, hp1⟩ : ∃ p1, p1 = relP ts q pn 0 (simP code ts rk pn q p0) := ⟨_, rfl⟩
        rw [← hp1] at HRE hir
        have hnext : simP code ts rk pn (q + 1) p0 = turnP code rk pn q p1 := by rw [hp1]; rfl
        have HNX := hidden hnext; have HIR := hidden hir
        clear hiq hir hp1 hnext
        go_wp2_with fail
        refine HRE.out.mono ?_
        rintro e w4 ⟨rfl, hs4, hb4⟩
        have HB4 := hidden (HBQ.out.trans hb4)
        have HST := hidden (sim_step hs4 (HT2.out.below HB4.out) HG.out (q : Int) (by have := HIR.out.le; omega) (fun i m hm hb => HIR.out.ok HK.out.coded HK.out.toAlike (by omega) hm hb))
        rw [HJN.out, ← HNX.out] at HST
        clear hs4 hb4 HRE HQ HBQ
        go_wp2_with fail
        refine HST.out.mono ?_
        rintro e w5 ⟨rfl, hs5, hb5⟩
        have HB5 := hidden (HB4.out.trans hb5); have HS5 := hidden hs5
        clear hs5 hb5 HST HB4 HIR HNX
        go_wp2_with fail
        go_roundw
        case rel => exact ⟨q + 1, by omega, by go_num, HS5, HB5⟩
        case measure => simp [intOf]; omega
      · obtain rfl : q = H := by omega
        have hji : ¬ (q : Int) < (q : Int) := by omega
        obtain ⟨s5, ev5, js5, _, hT5⟩ := HQ.out
        obtain ⟨va, vc, hev, _, _⟩ := row_shape hT5.erow
        obtain ⟨vn, hvn⟩ : ∃ vn, vn = (simP code ts rk pn q p0).es.length := ⟨_, rfl⟩
        rw [← hvn] at hev
        have c3 : wr.cell? ⟨tb, 3, none⟩ = some (.slice va vn vc) := by rw [← hev]; exact hT5.blk.cell 3 _ rfl
        have htb := hT5.blk.lt
        have hro := hT5.erow
        rw [hev] at hro
        have HRO := hidden hro
        have HSC0 : Hid (simC ws l ins q = (0, 0)) := hidden (by rw [HSC.out]; exact Prod.ext HE.out.symm HD3.out)
        clear hT5 hev hvn hro HQ
        go_wp2_with fail
        refine bodyPost_ret (v := .tuple #[.slice va vn vc, .int .i64 0, .int .i64 0]) (by simp [results, Tryz.results29, go_sem]) rfl ?_
        refine (show SimuPost _ _ _ _ _ _ _ _ _ _ from ⟨⟨va, vn, vc, ?_, fun e => ?_, fun _ => ?_⟩, HB2.out.trans (HBQ.out.mono HB2.out.size)⟩)
        · rw [HSC0.out]; rfl
        · rw [HSC0.out] at e; exact absurd rfl e
        · rw [Int.toNat_natCast, HFIN.out]
          exact own_lower HRO.out HB2.out.size

end Go.Proofs.YtcphhbofjkenaaaGreatDoor

namespace Go.Proofs.YtcphhbofjkenaaaGreatDoor
open Go Go.RowKit
set_option linter.unusedVariables false
set_option linter.unusedSimpArgs false

abbrev BkR := List PE × Int × Int × List Int
structure QC (w0 w : World) (z1 z2 mb : Nat) (mc : Array Value) (aa : Nat) (eva cva : Value) (R : BkR) (bb : Nat) (evb cvb : Value) (Rb : BkR) : Prop where
  a : LSys z1 w aa eva cva R
  alt : ∀ k, touch aa eva cva k → k < z2
  b : LSys z2 w bb evb cvb Rb
  mkr : Blk w mb mc 34
  mlt : mb < z1
  bel : Below w0.heap.size w0 w
  sz : w0.heap.size ≤ z1 ∧ z1 ≤ z2 ∧ z2 ≤ w.heap.size

section
variable {w0 w w' : World} {z1 z2 mb : Nat} {mc : Array Value} {aa : Nat} {eva cva : Value} {R : BkR} {bb : Nat} {evb cvb : Value} {Rb : BkR}
theorem QC.below (h : QC w0 w z1 z2 mb mc aa eva cva R bb evb cvb Rb) (hb : Below w.heap.size w w') : QC w0 w' z1 z2 mb mc aa eva cva R bb evb cvb Rb :=
  ⟨h.a.below hb, h.alt, h.b.below hb, h.mkr.sub hb h.mkr.lt, h.mlt, h.bel.trans (hb.mono h.bel.size), h.sz.1, h.sz.2.1, Nat.le_trans h.sz.2.2 hb.size⟩
theorem QC.chg (h : QC w0 w z1 z2 mb mc aa eva cva R bb evb cvb Rb) {evb' cvb' : Value} {Rb' : BkR} (hb : LSys z2 w' bb evb' cvb' Rb') (hc : Chg (touch bb evb cvb) w w') : QC w0 w' z1 z2 mb mc aa eva cva R bb evb' cvb' Rb' := by
  have hlo : ∀ k, touch bb evb cvb k → z2 ≤ k := fun k hk => h.b.touch_lo hk
  have h1 := h.mlt
  obtain ⟨s1, s2, s3⟩ := h.sz
  exact ⟨h.a.chg hc hb.tab (fun k hk e => by have := h.alt k hk; have := hlo k e; omega), h.alt, hb, h.mkr.chg hc (fun e => by have := hlo _ e; omega), h1, h.bel.trans (hc.toBelow h.bel.size (fun b hb e => by have := hlo b e; omega)), s1, s2, Nat.le_trans s3 hc.size⟩
theorem QC.load {s : ByteArray} {e : Ending} {R' : BkR} (h : QC w0 w z1 z2 mb mc aa eva cva R bb evb cvb Rb) (hp : LoadPost w bb evb cvb (loadR s Rb.1 Rb.2.1 Rb.2.2.1 Rb.2.2.2) e w') (hR : (loadR s Rb.1 Rb.2.1 Rb.2.2.1 Rb.2.2.2).2 = R') :
    ∃ (E P : Int) (evb' cvb' : Value), e = .returned (.tuple #[.int .i64 E, .int .i64 P]) ∧ QC w0 w' z1 z2 mb mc aa eva cva R bb evb' cvb' R' := by
  obtain ⟨h1, ⟨ev', cv', h2, h3⟩, h4⟩ := h.b.load h.sz.2.2 hp
  rw [hR] at h2
  exact ⟨_, _, ev', cv', h1, h.chg h2 h4⟩
end

def otherT : ByteArray := ⟨#[58, 32, 119, 48, 32, 49, 32, 111, 117, 116, 32, 59, 32, 118, 97, 114, 105, 97, 98, 108, 101, 32, 118, 48]⟩
def w0T : ByteArray := ⟨#[119, 48]⟩
def w0K : TK := ⟨w0T, 9, 9, 0⟩
theorem findRes_two (x : Option PE) : ∃ a b, findRes x = .tuple #[a, b] := by
  unfold findRes
  repeat' split
  all_goals exact ⟨_, _, rfl⟩

theorem RunPost.ret {w w' : World} {c : Int} {D : Nat × Int × List Int × MW} {e : Ending} (h : RunPost w c D e w') : ∃ v, e = .returned v ∧ Below w.heap.size w w' := by
  obtain ⟨⟨_, e⟩ | ⟨_, xv, ov, vv, e, _⟩, hb⟩ := h
  · exact ⟨_, e, hb⟩
  · exact ⟨_, e, hb⟩
theorem AdmPost.ret {w w' : World} {ws : List RW} {l : List TK} {e : Ending} (h : AdmPost w ws l e w') : ∃ v, e = .returned v ∧ Below w.heap.size w w' := by
  obtain ⟨⟨_, _, _, e, _⟩, hb⟩ := h
  exact ⟨_, e, hb⟩
theorem SimuPost.ret {w w' : World} {es : List PE} {code : List Int} {ws : List RW} {nn : Nat} {l : List TK} {ins : List Int} {h : Int} {e : Ending} (hp : SimuPost w es code ws nn l ins h e w') : ∃ v, e = .returned v ∧ Below w.heap.size w w' := by
  obtain ⟨⟨_, _, _, e, _⟩, hb⟩ := hp
  exact ⟨_, e, hb⟩

theorem bad_word_err (t : ByteArray) (es : List PE) (nt : Int) (code : List Int) : (wordP es nt code (badT ++ t) 1).1.1 ≠ 0 := by
  unfold wordP
  rw [bad1]
  simp only
  split
  · obtain ⟨x, h1, h2⟩ := stepP_one (es := es) (nt := nt) (tk := 2 + 1) (dc := code) (b := PB.first) (r := []) (kn := Inf.zero)
    rw [defP, bad5]
    simp only
    rw [h2]
    simp only [if_true]
    obtain ⟨n, hn⟩ : ∃ n, n = (badT ++ t).size := ⟨_, rfl⟩
    rw [← hn, show n + 1 = (n + 1 - 1) + 1 by omega, defP, bad7]
    simp only
    rw [stepP_loop (b := x) (by rw [h1]; rfl)]
    simp only
    rw [if_neg (by decide)]
    exact (by decide : (5 : Int) ≠ 0)
  · rename_i h
    exact h

theorem forth_loadBad {w : World} {bb : Nat} {ev cv : Value} {es : List PE} {nv nt : Int} {code : List Int} (t : ByteArray) (h : PSys w bb ev cv es nv nt code) (ht : Tab w) (hs : t.size ≤ 140737488351232) (hi : LInv es nv nt code) :
    Calls Tryz.prog 24 #[.pointer (some ⟨bb, 0, none⟩), .string (badT ++ t)] w (LoadPost w bb ev cv (loadR (badT ++ t) es nv nt code)) := by
  refine forth_loadB _ h (book_loadOnce _ h ht (by rw [bad_size]; omega) hi (by rw [bad0]; decide +kernel) (by rw [bad0]; decide +kernel) fun _ => ?_)
  rw [bad0]
  dsimp only
  have hsz := bad_size t
  have e1 := hi.t1; have e2 := hi.c; have e3 := hi.l
  refine ⟨bad_word_err t es nt code, fun W rb hb => book_loadWordP hb (by omega) (by omega) (by omega) hi.w hi.t0 (by omega) (by omega) (fun b q _ st _ => (b = 5 ∧ q = 0 ∧ st = [PB.first]) ∨ (b = 7 ∧ q = 1 ∧ ∃ x r, st = x :: r ∧ x.opener = 34)) (by rw [bad1]; decide +kernel) (fun _ => by rw [bad1]; exact Or.inl ⟨rfl, rfl, rfl⟩) (fun b q dc st kn g => by rcases g with g | g <;> omega) fun b q dc b0 r0 kn _ g => ?_⟩
  rcases g with ⟨rfl, rfl, g⟩ | ⟨rfl, rfl, x, r, g, go⟩
  · rw [bad5, g]
    refine ⟨by decide +kernel, fun T hT _ => ?_⟩
    obtain ⟨x, h1, h2⟩ := stepP_one (es := es) (nt := nt) (tk := 2 + ((0 : Nat) : Int) + 1) (dc := dc) (b := PB.first) (r := []) (kn := kn)
    rw [hT, h2]
    exact Or.inr ⟨rfl, rfl, x, [], rfl, by rw [h1]; rfl⟩
  · rw [bad7, g]
    refine ⟨by decide +kernel, fun T hT h0 => ?_⟩
    rw [hT, stepP_loop go] at h0
    cases h0

theorem forth_loadNum {w : World} {bb : Nat} {ev cv : Value} {es : List PE} {nv nt : Int} {code : List Int} (t : ByteArray) (h : PSys w bb ev cv es nv nt code) (ht : Tab w) (hs : t.size ≤ 140737488351232) (hi : LInv es nv nt code) :
    Calls Tryz.prog 24 #[.pointer (some ⟨bb, 0, none⟩), .string (oneT ++ t)] w (LoadPost w bb ev cv (loadR (oneT ++ t) es nv nt code)) := by
  have h0 : nx (oneT ++ t) 0 = (⟨#[49]⟩, 0, 1) := hdT_tok oneT t 0 0 1 (by decide) (by decide) (by decide) (by decide +kernel) (by decide +kernel) (by decide +kernel) (by decide +kernel)
  exact forth_loadB _ h (book_loadOnce _ h ht (by rw [ByteArray.size_append]; have : oneT.size = 2 := rfl; omega) hi (by rw [h0]; decide +kernel) (by rw [h0]; decide +kernel) fun e => by rw [h0] at e; exact absurd e (by decide +kernel))

set_option maxRecDepth 100000 in
set_option maxHeartbeats 16000000 in
theorem keep_quiet {B : Nat} (w : World) (ht : Tab w) (a1 a2 : Option Addr) (n1 c1 n2 c2 : Nat) (l1 l2 : List Int) (z : Int) (t : ByteArray) (h1 : InsAt B w (.slice a1 n1 c1) l1) (i1 : ∀ x ∈ l1, I64 x) (h2 : InsAt B w (.slice a2 n2 c2) l2) (iz : I64 z) (hB : B ≤ w.heap.size) (e1 : l1.length ≤ 17592186043904) (e2 : l2.length ≤ 17592186043904) (et : t.size ≤ 140737488351232) :
    Calls Tryz.prog 11 #[.slice a1 n1 c1, .int .i64 z, .string t, .slice a2 n2 c2] w fun e w' => e = .returned (.bool true) ∧ Below w.heap.size w w' := by
  have HT := hidden ht
  have HM := hidden (mk_made w a1 n1 c1 l1 false h1 i1 hB e1)
  have HZ := hidden iz
  have H2 := hidden h2; have HBB := hidden hB
  clear ht h1 i1 iz h2
  go_enter Tryz.func11, Tryz.ntmps11
  go_wp2_with fail
  refine HM.out.mono ?_
  rintro e w1 ⟨mb, i, s, k, v, rfl, hmb, k1, k4, hsz, hto, hcn, hbl, hb1⟩
  have HL := hidden (keep_loaded2 w1 mb hbl (HT.out.below hb1) hsz)
  have HBL := hidden hbl; have HB1 := hidden hb1; have HTO := hidden hto
  have hml1 := hbl.lt
  clear hbl hb1 HM hto hcn
  go_wp2_with fail
  refine HL.out.mono ?_
  rintro e w2 ⟨aa, eva, cva, ws, rfl, haa, ⟨hA, hAk, hWs⟩, hb2⟩
  have HN := hidden (forth_new w2 hA.tab)
  obtain ⟨R, hR⟩ : ∃ R, R = (loadR s [] 0 0 []).2 := ⟨_, rfl⟩
  rw [← hR] at hA hAk
  obtain ⟨okb, hok⟩ : ∃ o : Int, o = (loadR s [] 0 0 []).1.1 := ⟨_, rfl⟩
  rw [← hok]
  have HBL2 := hidden (HBL.out.sub hb2 HBL.out.lt)
  have HA2 := hidden hA; have HAK := hidden hAk; have HWS := hidden hWs; have HRR := hidden hR; have HOK := hidden hok
  have HB2 := hidden (HB1.out.trans (hb2.mono HB1.out.size))
  have hw12 := hb2.size; have hw01 := HB1.out.size
  clear hA hAk hWs hb2 HL HBL HB1 hR hok
  go_wp2_with fail
  refine HN.out.mono ?_
  rintro e w3 ⟨bb, hbb, rfl, hpb, hb3⟩
  have hA3 := HA2.out.below hb3
  have hq3 : QC w w3 w1.heap.size w2.heap.size mb (mkC a1 n1 c1 i s k v false) aa eva cva R bb (.slice none 0 0) (.slice none 0 0) ([], 0, 0, []) :=
    ⟨hA3, fun k hk => HA2.out.touch_lt hk, ⟨hpb, LInv.zero, hA3.tab, hbb, (fun k hk => by simp [Value.ownBlock] at hk), fun k hk => by simp [Value.ownBlock] at hk⟩, HBL2.out.sub hb3 HBL2.out.lt, hml1, HB2.out.trans (hb3.mono HB2.out.size), hw01, hw12, hb3.size⟩
  have HQ3 := hidden hq3
  have HN3 := hidden (forth_new w3 hA3.tab)
  have hw23 := hb3.size
  have hbl3 := hpb.blk.lt
  clear hpb hb3 hA3 hq3 HN HA2 HBL2 HB2
  go_wp2_with fail
  refine HN3.out.mono ?_
  rintro e w4 ⟨cc, hcc, rfl, hpc, hb4⟩
  have HQ4 := hidden (HQ3.out.below hb4)
  have hc4 : LSys w3.heap.size w4 cc (.slice none 0 0) (.slice none 0 0) ([], 0, 0, []) := ⟨hpc, LInv.zero, HQ4.out.a.tab, hcc, (fun k hk => by simp [Value.ownBlock] at hk), fun k hk => by simp [Value.ownBlock] at hk⟩
  have HC4 := hidden hc4
  have hcl4 := hpc.blk.lt
  have hw34 := hb4.size
  clear hpc hb4 hc4 HQ3 HN3
  have hok2 : okb = 0 ∨ (okb == 0) = false := by
    by_cases h : okb = 0
    · exact Or.inl h
    · exact Or.inr (by simpa using h)
  rcases hok2 with hok | hok
  case inr =>
    go_wp2_with fail
    go_ret
    exact ⟨rfl, HQ4.out.bel⟩
  have HTWO : Hid (∀ x : Int, CutP s x → (loadR (s.extract 0 x.toNat) [] 0 0 []).1.1 = 0 ∧ loadR (s.extract x.toNat s.size) (loadR (s.extract 0 x.toNat) [] 0 0 []).2.1 (loadR (s.extract 0 x.toNat) [] 0 0 []).2.2.1 (loadR (s.extract 0 x.toNat) [] 0 0 []).2.2.2.1 (loadR (s.extract 0 x.toNat) [] 0 0 []).2.2.2.2 = loadR s [] 0 0 []) := hidden fun x hx => pieces_two HTO.out hx (by rw [← HOK.out]; exact hok)
  have hok0 : (okb == 0) = true := by simp [hok]
  clear hok
  have cm : w4.cell? ⟨mb, 2, none⟩ = some (.string s) := HQ4.out.mkr.cell 2 _ rfl
  have hml4 := HQ4.out.mkr.lt
  have HCT := hidden (keep_cut s z w4 hsz HZ.out)
  go_wp2_with fail
  refine HCT.out.mono ?_
  rintro e w5 ⟨x, rfl, hcp, hb5⟩
  obtain ⟨tw1, tw2⟩ := HTWO.out x hcp
  obtain ⟨m, hxm, hms, _⟩ := hcp
  have hx0 : 0 ≤ x := by omega
  have hxs : x ≤ (s.size : Int) := by omega
  obtain ⟨R1, hR1⟩ : ∃ R1, R1 = (loadR (s.extract 0 x.toNat) [] 0 0 []).2 := ⟨_, rfl⟩
  rw [← hR1] at tw2
  have HTW2 := hidden tw2
  have HQ5 := hidden (HQ4.out.below hb5); have HC5 := hidden (HC4.out.below hb5)
  have cm5 : w5.cell? ⟨mb, 2, none⟩ = some (.string s) := HQ5.out.mkr.cell 2 _ rfl
  have hml5 := HQ5.out.mkr.lt
  have hsz1 : (s.extract 0 x.toNat).size ≤ 1100000 := by rw [ByteArray.size_extract]; omega
  have hsz2 : (s.extract x.toNat s.size).size ≤ 1100000 := by rw [ByteArray.size_extract]; omega
  have HL1 := hidden (forth_load (s.extract 0 x.toNat) HQ5.out.b.sys HQ5.out.b.tab hsz1 HQ5.out.b.inv)
  have hw45 := hb5.size
  obtain ⟨wb, hwb1, hwb2, hwb3⟩ := load_ws (s.extract 0 x.toNat) alk_nil LInv.zero wsOk_nil WsB.nil
  have HWB : Hid (Alk R1.1 R1.2.2.2 wb) := hidden (by rw [hR1]; exact hwb1)
  have HSZ2 := hidden hsz2; have HR1 := hidden hR1
  clear hb5 hxm hms tw1 tw2 HTWO HCT HQ4 HC4 cm hml4 hsz1 hsz2 hR1 hwb1 hwb2 hwb3
  go_wp2_with fail
  refine HL1.out.mono ?_
  intro e w6 hpost
  obtain ⟨hh1, ⟨evb, cvb, hB6, htch6⟩, hch6⟩ := HQ5.out.b.load HQ5.out.sz.2.2 hpost
  simp only at hh1 hB6
  rw [← HR1.out] at hB6
  subst hh1
  generalize (loadR (s.extract 0 x.toNat) [] 0 0 []).1.1 = r2
  generalize (loadR (s.extract 0 x.toNat) [] 0 0 []).1.2 = r3
  have hbo : ∀ k, touch bb (.slice none 0 0) (.slice none 0 0) k → k = bb := fun k hk => by
    rcases hk with e | e | e
    · exact e
    · simp [Value.ownBlock] at e
    · simp [Value.ownBlock] at e
  have hco : ∀ k, touch cc (.slice none 0 0) (.slice none 0 0) k → k = cc := fun k hk => by
    rcases hk with e | e | e
    · exact e
    · simp [Value.ownBlock] at e
    · simp [Value.ownBlock] at e
  have HQ6 := hidden (HQ5.out.chg hB6 hch6)
  have hc6 := HC5.out.chg hch6 hB6.tab (fun k hk e => by have := hbo k e; have := hco k hk; omega)
  have HBT : Hid (∀ k, touch bb evb cvb k → k = bb ∨ w5.heap.size ≤ k) := hidden fun k hk => (htch6 k hk).imp (hbo k) id
  have HL2 := hidden (forth_load otherT hc6.sys hc6.tab (by decide) hc6.inv)
  have HC6 := hidden hc6; have HCO := hidden hco
  have hw56 := hch6.size
  clear hpost hB6 htch6 hch6 hbo hco hc6 HL1 HQ5 HC5 cm5 hml5
  go_wp2_with fail
  refine (show Calls _ _ #[.pointer (some ⟨cc, 0, none⟩), .string ⟨#[58, 32, 119, 48, 32, 49, 32, 111, 117, 116, 32, 59, 32, 118, 97, 114, 105, 97, 98, 108, 101, 32, 118, 48]⟩] _ _ from HL2.out).mono ?_
  intro e w7 hpost
  obtain ⟨hh1, ⟨evc, cvc, hC7, _⟩, hch7⟩ := HC6.out.load (by omega) hpost
  subst hh1
  generalize (loadR otherT _ _ _ _).1.1 = r4
  generalize (loadR otherT _ _ _ _).1.2 = r5
  have hB7 := HQ6.out.b.chg hch7 hC7.tab (fun k hk e => by have := HBT.out k hk; have := HCO.out k e; omega)
  have hA7 := HQ6.out.a.chg hch7 hC7.tab (fun k hk e => by have := HQ6.out.alt k hk; have := HCO.out k e; omega)
  have HQ7 : Hid (QC w w7 w1.heap.size w2.heap.size mb (mkC a1 n1 c1 i s k v false) aa eva cva R bb evb cvb R1) := hidden
    ⟨hA7, HQ6.out.alt, hB7, HQ6.out.mkr.chg hch7 (fun e => by have := HCO.out _ e; omega), HQ6.out.mlt, HQ6.out.bel.trans (hch7.toBelow HQ6.out.bel.size (fun b hb e => by have := HCO.out _ e; omega)), HQ6.out.sz.1, HQ6.out.sz.2.1, Nat.le_trans HQ6.out.sz.2.2 hch7.size⟩
  clear hpost hC7 hch7 hB7 hA7 HL2 HC6 HQ6 HBT HCO
  have HWD := hidden (forth_words HQ7.out.b.sys (by have := HQ7.out.b.inv.l; omega) HQ7.out.b.tab)
  go_wp2_with fail
  refine HWD.out.mono ?_
  rintro e w8 ⟨g8, rfl, _, _, hb8⟩
  have HQ8 := hidden (HQ7.out.below hb8)
  clear hb8 HWD HQ7
  have HFD := hidden (forth_find t HQ8.out.b.sys (by have := HQ8.out.b.inv.l; omega))
  obtain ⟨fa, fb, hfr⟩ := findRes_two (lastP R1.1 t R1.1.length)
  rw [hfr] at HFD
  clear hfr
  go_wp2_with fail
  refine HFD.out.mono ?_
  rintro e w9 ⟨rfl, hb9⟩
  have HQ9 := hidden (HQ8.out.below hb9)
  clear hb9 HFD HQ8
  have HL9 := hidden (forth_load ifT HQ9.out.b.sys HQ9.out.b.tab (by decide) HQ9.out.b.inv)
  go_wp2_with fail
  refine (show Calls _ _ #[.pointer (some ⟨bb, 0, none⟩), .string ⟨#[58, 32, 105, 102, 32, 59]⟩] _ _ from HL9.out).mono ?_
  intro e w10 hpost
  obtain ⟨E1, P1, ev10, cv10, rfl, hq⟩ := HQ9.out.load (R' := R1) hpost (load_if _ _ _ _)
  have HQ10 := hidden hq
  clear hpost hq HL9 HQ9
  have HL10 := hidden (forth_loadBad t HQ10.out.b.sys HQ10.out.b.tab et HQ10.out.b.inv)
  go_wp2_with fail
  refine (show Calls _ _ #[.pointer (some ⟨bb, 0, none⟩), .string (⟨#[58, 32, 98, 97, 100, 32, 49, 32, 108, 111, 111, 112, 32]⟩ ++ t)] _ _ from HL10.out).mono ?_
  intro e w11 hpost
  obtain ⟨E2, P2, ev11, cv11, rfl, hq⟩ := HQ10.out.load (R' := R1) hpost (load_bad2 _ _ _ _ _)
  have HQ11 := hidden hq
  clear hpost hq HL10 HQ10
  have HL11 := hidden (forth_loadNum t HQ11.out.b.sys HQ11.out.b.tab et HQ11.out.b.inv)
  go_wp2_with fail
  refine (show Calls _ _ #[.pointer (some ⟨bb, 0, none⟩), .string (⟨#[49, 32]⟩ ++ t)] _ _ from HL11.out).mono ?_
  intro e w12 hpost
  obtain ⟨E3, P3, ev12, cv12, rfl, hq⟩ := HQ11.out.load (R' := R1) hpost (load_one _ _ _ _ _)
  have HQ12 := hidden hq
  clear hpost hq HL11 HQ11
  have hi12 : InsAt B w12 (.slice a2 n2 c2) l2 := H2.out.below (HQ12.out.bel.mono HBB.out)
  have HR12 := hidden (forth_runD w0T 50 HQ12.out.b.sys HQ12.out.b.inv HQ12.out.b.tab HWB.out hi12 hi12 (Nat.le_trans HBB.out HQ12.out.bel.size) e2 e2)
  clear hi12
  go_wp2_with fail
  refine (show Calls _ _ #[.pointer (some ⟨bb, 0, none⟩), .string ⟨#[119, 48]⟩, .slice a2 n2 c2, .slice a2 n2 c2, .int .i64 50] _ _ from HR12.out).mono ?_
  intro e w13 hpost
  obtain ⟨v13, rfl, hb13⟩ := hpost.ret
  have HQ13 := hidden (HQ12.out.below hb13)
  clear hpost hb13 HR12 HQ12
  have HR13 := hidden (forth_runD t 0 HQ13.out.b.sys HQ13.out.b.inv HQ13.out.b.tab HWB.out (insAt_none 0 w13) (insAt_none 0 w13) (Nat.zero_le _) (Nat.zero_le _) (Nat.zero_le _))
  go_wp2_with fail
  refine HR13.out.mono ?_
  intro e w14 hpost
  obtain ⟨v14, rfl, hb14⟩ := hpost.ret
  have HQ14 := hidden (HQ13.out.below hb14)
  clear hpost hb14 HR13 HQ13
  have HA14 := hidden (rates_admit [] none 0 0 HQ14.out.b.sys (by have := HQ14.out.b.inv.l; omega) HWB.out.toAlike rfl (Nat.le_refl _) (Nat.zero_le _) (Or.inl rfl))
  go_wp2_with fail
  refine HA14.out.mono ?_
  intro e w15 hpost
  obtain ⟨v15, rfl, hb15⟩ := hpost.ret
  have HQ15 := hidden (HQ14.out.below hb15)
  clear hpost hb15 HA14 HQ14
  obtain ⟨X, hX⟩ : ∃ X : World, X = w15.alloc (.cells #[.string ⟨#[119, 48]⟩, .int .i64 9, .int .i64 9, .int .i64 0] 67 (0, 0)) := ⟨_, rfl⟩
  have hbX : Below w15.heap.size w15 X := by rw [hX]; exact (Below.refl _ _).alloc (Nat.le_refl _) _
  have hkX : Blk X w15.heap.size #[.string ⟨#[119, 48]⟩, .int .i64 9, .int .i64 9, .int .i64 0] 67 := by rw [hX]; exact blk_new w15 _ _
  have HQX := hidden (HQ15.out.below hbX)
  have hcX : ∀ (j : Nat) (u : Value), ([w0K].flatMap TK.cells)[j]? = some u → X.cell? ⟨w15.heap.size, j, none⟩ = some u := fun j u hj => hkX.cell j u (by
    have e : [w0K].flatMap TK.cells = [.string ⟨#[119, 48]⟩, .int .i64 9, .int .i64 9, .int .i64 0] := rfl
    rw [e] at hj
    rw [← hj]; exact List.getElem?_toArray)
  have HSI := hidden (rates_simulate [w0K] (some ⟨w15.heap.size, 0, none⟩) 1 1 9 HQX.out.b.sys HQX.out.b.inv HWB.out HQX.out.b.tab rfl (Nat.le_refl _) (by decide) (Or.inr ⟨w15.heap.size, rfl, hkX.lt, hcX⟩) (insAt_none X.heap.size X) (Nat.zero_le _))
  have HX := hidden hX
  clear hX hbX hkX hcX HQ15
  go_wp2_with fail
  rw [← HX.out]
  refine HSI.out.mono ?_
  intro e w16 hpost
  obtain ⟨v16, rfl, hb16⟩ := hpost.ret
  have HQ16 := hidden (HQX.out.below hb16)
  clear hpost hb16 HSI HQX HX
  have cm16 : w16.cell? ⟨mb, 2, none⟩ = some (.string s) := HQ16.out.mkr.cell 2 _ rfl
  have hml16 := HQ16.out.mkr.lt
  have HL16 := hidden (forth_load (s.extract x.toNat s.size) HQ16.out.b.sys HQ16.out.b.tab HSZ2.out HQ16.out.b.inv)
  go_wp2_with fail
  refine HL16.out.mono ?_
  intro e w17 hpost
  obtain ⟨E4, P4, ev17, cv17, rfl, hq⟩ := HQ16.out.load (R' := R) hpost (by rw [HTW2.out, HRR.out])
  have HQ17 := hidden hq
  clear hpost hq HL16 HQ16 cm16 hml16
  have HSW := hidden (keep_sameWords (aa := aa) (bb := bb) (R := R) (ws := ws) ⟨⟨_, _, HQ17.out.a.sys⟩, HQ17.out.a.inv, HAK.out, HWS.out, HQ17.out.a.tab⟩ ⟨⟨_, _, HQ17.out.b.sys⟩, HQ17.out.b.inv, HAK.out, HWS.out, HQ17.out.b.tab⟩)
  go_wp2_with fail
  refine HSW.out.mono ?_
  rintro e w18 ⟨rfl, hb18⟩
  have HB18 := hidden (HQ17.out.below hb18)
  clear hb18 HSW HQ17
  go_wp2_with fail
  go_ret
  exact ⟨rfl, HB18.out.bel⟩

end Go.Proofs.YtcphhbofjkenaaaGreatDoor
