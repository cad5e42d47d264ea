/- The law: do all names that came out still read as the caller has written them? -/
import Derived.Test.YtogcdcdhogcogaaGreatDoorM48

namespace Go.Proofs.YtogcdcdhogcogaaGreatDoor
open Go Go.RowKit
set_option linter.unusedVariables false
set_option linter.unusedSimpArgs false

def nilV : Value := .slice none 0 0

set_option maxRecDepth 100000 in
set_option maxHeartbeats 8000000 in
theorem law_looks (B : Nat) (w : World) (wb : Nat) (lv nv : Value) (gs : List Value) (hb : Blk w wb (lwC lv nv nilV nilV nilV) 82) (hrow : w.ownsRow B 66 1 nv gs.length gs)
    (hlen : gs.length ≤ 10000000) (hM : ∀ i u, gs[i]? = some u → Marked B w u (i / 4)) :
    Calls Tryz.prog 32 #[.pointer (some ⟨wb, 1, none⟩)] w fun e w' => e = .returned (.bool true) ∧ Below w.heap.size w w' := by
  obtain ⟨nad, ncap, hnv, hncap, _⟩ := row_shape hrow
  subst hnv
  have HC := hidden (fun (w' : World) (h : Below w.heap.size w w') => (show w'.cell? ⟨wb, 1, none⟩ = some (.slice nad gs.length ncap) ∧ w'.cell? ⟨wb, 2, none⟩ = some (.slice none 0 0) ∧ w'.cell? ⟨wb, 3, none⟩ = some (.slice none 0 0) ∧ w'.cell? ⟨wb, 4, none⟩ = some (.slice none 0 0) from
    ⟨(hb.sub h hb.lt).cell 1 _ rfl, (hb.sub h hb.lt).cell 2 _ rfl, (hb.sub h hb.lt).cell 3 _ rfl, (hb.sub h hb.lt).cell 4 _ rfl⟩))
  have HR := hidden (fun (w' : World) (h : Below w.heap.size w w') => ownsRow_chg hrow (Chg.ofBelow (S := fun _ => False) h) (fun _ _ => id))
  have HMM := hidden (fun (w' : World) (h : Below w.heap.size w w') i u hu => (hM i u hu).chg (Chg.ofBelow (S := fun _ => False) h) (fun _ _ => id))
  clear hb hrow hM
  go_enter Tryz.func32, Tryz.ntmps32
  go_wp2_with fail
  go_loopw [3] (fun i wr => ∃ k : Nat, k ≤ gs.length ∧ i = .int .i64 k ∧ Hid (Below w.heap.size w wr)) (fun i _ => gs.length - (intOf i).toNat)
  case atStart => exact ⟨0, Nat.zero_le _, rfl, Below.refl _ _⟩
  case round =>
    obtain ⟨k, hk, rfl, HB⟩ := hrel
    obtain ⟨c1, c2, c3, c4⟩ := HC.out wr HB.out
    by_cases hlt : k < gs.length
    · have hli : (k : Int) < (gs.length : Int) := by omega
      have hl0 : (0 : Int) ≤ (k : Int) := by omega
      have HMK := hidden (law_mark k wr (by omega))
      obtain ⟨u, hu⟩ : ∃ u, gs[k]? = some u := ⟨_, List.getElem?_eq_getElem hlt⟩
      obtain ⟨m, hm⟩ : ∃ m, m = markS (k / 4) := ⟨_, rfl⟩
      rw [← hm] at HMK
      have HU := hidden hu; have HM := hidden hm
      clear hu hm
      go_wp2_with fail
      refine HMK.out.mono ?_
      rintro e w2 ⟨rfl, h2⟩
      have hb2 : Below w.heap.size w w2 := HB.out.trans (h2.mono HB.out.size)
      obtain ⟨d1, d2, d3, d4⟩ := HC.out w2 hb2
      obtain ⟨ng, ncap', hv, _, hng, _, _, hcell⟩ := row_cells (HR.out w2 hb2) (by omega)
      obtain ⟨rfl, rfl⟩ : nad = some ⟨ng, 0, none⟩ ∧ ncap = ncap' := by simpa using hv
      obtain ⟨n, hn, hrow⟩ := HMM.out w2 hb2 k u HU.out
      obtain ⟨ua, uc, hus, huc, _⟩ := row_shape hrow
      subst hus
      have e1 : w2.cell? ⟨ng, k, none⟩ = some (.slice ua n uc) := hcell k _ HU.out
      have HB2 := hidden hb2; have HRW := hidden hrow
      clear HMK h2 hb2 hcell hv hrow c1 c2 c3 c4
      go_wp2_with fail
      go_loop [5] (fun j => ∃ q : Nat, q ≤ n ∧ j = .int .i64 q) (fun j => n - (intOf j).toNat)
      case atStart => exact ⟨0, Nat.zero_le _, rfl⟩
      case round =>
        obtain ⟨q, hq, rfl⟩ := hrel
        by_cases hqn : q < n
        · have hqi : (q : Int) < (n : Int) := by omega
          have hq0 : (0 : Int) ≤ (q : Int) := by omega
          obtain ⟨g, cap', hv, _, hg, _, _, hc⟩ := row_cells HRW.out (by omega)
          obtain ⟨rfl, rfl⟩ : ua = some ⟨g, 0, none⟩ ∧ uc = cap' := by simpa using hv
          have e2 : w2.cell? ⟨g, q, none⟩ = some (.string m) := hc q _ (by
            rw [pats_get _ (by simp) n q (by simpa using hqn), List.length_singleton, Nat.mod_one, HM.out]; rfl)
          clear hc hv
          go_wp2_with fail
          go_round
          case rel => exact ⟨q + 1, by omega, by go_num⟩
          case measure => simp [intOf]; omega
        · have hqi : ¬ (q : Int) < (n : Int) := by omega
          go_wp2_with fail
          go_roundw
          case rel => exact ⟨k + 1, by omega, by go_num, HB2⟩
          case measure => simp [intOf]; omega
    · have hli : ¬ (k : Int) < (gs.length : Int) := by omega
      go_wp2_with fail
      refine wp_loop_rounds 1 ?_
      rw [rounds_succ]
      go_wp2_with fail
      refine wp_loop_rounds 1 ?_
      rw [rounds_succ]
      go_wp2_with fail
      refine wp_loop_rounds 1 ?_
      rw [rounds_succ]
      go_wp2_with fail
      go_ret
      exact ⟨rfl, HB.out⟩

end Go.Proofs.YtogcdcdhogcogaaGreatDoor

/- The law's world: pairs of systems; New. -/
namespace Go.Proofs.YtogcdcdhogcogaaGreatDoor
open Go Go.RowKit
set_option linter.unusedVariables false
set_option linter.unusedSimpArgs false

/-- A system of the program, and the document's. -/
structure PD where
  bb : Nat
  ev : Value
  cv : Value
  es : List PE
  nv : Int
  nt : Int
  code : List Int
  sb : Nat
  sv : Value
  ws : List RW

/-- The blocks that they lie in. -/
def PD.foot (d : PD) (k : Nat) : Prop := k = d.bb ∨ d.ev.ownBlock = some k ∨ d.cv.ownBlock = some k ∨ k = d.sb ∨ d.sv.ownBlock = some k

structure PairAt (B : Nat) (w : World) (d : PD) : Prop where
  ps : PSys w d.bb d.ev d.cv d.es d.nv d.nt d.code
  li : LInv d.es d.nv d.nt d.code
  rs : RefSys w d.sb d.sv d.ws d.nv d.nt
  al : Alike d.es d.ws
  ok : WsOk d.ws
  fp : ∀ k, d.foot k → B ≤ k

theorem PairAt.lt {B : Nat} {w : World} {d : PD} (h : PairAt B w d) {k : Nat} (hk : d.foot k) : k < w.heap.size := by
  rcases hk with e | e | e | e | e
  · rw [e]; exact h.ps.blk.lt
  · exact own_lt h.ps.row e
  · exact own_lt h.ps.cod e
  · rw [e]; exact h.rs.blk.lt
  · exact own_lt h.rs.row e
theorem PairAt.chg {B : Nat} {S : Nat → Prop} {w w' : World} {d : PD} (h : PairAt B w d) (hc : Chg S w w') (hs : ∀ k, d.foot k → ¬ S k) : PairAt B w' d :=
  ⟨h.ps.chg hc (hs _ (Or.inl rfl)) (fun k hk => hs k (Or.inr (Or.inl hk))) (fun k hk => hs k (Or.inr (Or.inr (Or.inl hk)))), h.li,
    h.rs.chg hc (hs _ (Or.inr (Or.inr (Or.inr (Or.inl rfl))))) (fun k hk => hs k (Or.inr (Or.inr (Or.inr (Or.inr hk))))), h.al, h.ok, h.fp⟩

/-- No block of a pair is one of another type. -/
theorem PairAt.other {B : Nat} {w : World} {d : PD} (h : PairAt B w d) {base : Nat} {e : TypeId} {size n : Nat} {v : Value} {xs : List Value} (hr : w.ownsRow base e size v n xs)
    (h1 : 96 ≠ e) (h2 : 146 ≠ e) (h3 : 3 ≠ e) (h4 : 163 ≠ e) (h5 : 173 ≠ e) {k : Nat} (hk : v.ownBlock = some k) : ¬ d.foot k := by
  rintro (e' | e' | e' | e' | e')
  · subst e'; exact own_blk hr h.ps.blk h1 hk
  · exact own_own h.ps.row hr h2 e' hk
  · exact own_own h.ps.cod hr h3 e' hk
  · subst e'; exact own_blk hr h.rs.blk h4 hk
  · exact own_own h.rs.row hr h5 e' hk
theorem PairAt.otherB {B : Nat} {w : World} {d : PD} (h : PairAt B w d) {b : Nat} {cs : Array Value} {e : TypeId} (hb : Blk w b cs e)
    (h1 : 96 ≠ e) (h2 : 146 ≠ e) (h3 : 3 ≠ e) (h4 : 163 ≠ e) (h5 : 173 ≠ e) : ¬ d.foot b := by
  rintro (e' | e' | e' | e' | e')
  · subst e'; exact h1 (blk_type h.ps.blk hb)
  · exact own_blk h.ps.row hb h2.symm e'
  · exact own_blk h.ps.cod hb h3.symm e'
  · subst e'; exact h4 (blk_type h.rs.blk hb)
  · exact own_blk h.rs.row hb h5.symm e'

/-- Its cells in the law's row. -/
def PD.cells (d : PD) : List Value := [.pointer (some ⟨d.bb, 0, none⟩), .pointer (some ⟨d.sb, 0, none⟩)]
def PD.fresh (bb sb : Nat) : PD := ⟨bb, .slice none 0 0, .slice none 0 0, [], 0, 0, [], sb, .slice none 0 0, []⟩

/-- The four rows of lists that came out. -/
structure B4 where
  n : Value
  i : Value
  p : Value
  e : Value

/-- All that a script has made, beside the lists that came out, which lie in F. -/
structure LawAt (B : Nat) (w : World) (wb : Nat) (lv : Value) (bk : B4) (F : Nat → Prop) (ds : List PD) : Prop where
  blk : Blk w wb (lwC lv bk.n bk.i bk.p bk.e) 82
  prs : w.ownsRow B 135 2 lv ds.length (ds.flatMap PD.cells)
  at_ : ∀ (i : Nat) (d : PD), ds[i]? = some d → PairAt B w d
  dis : ∀ (i j : Nat) (d d' : PD), ds[i]? = some d → ds[j]? = some d' → i ≠ j → ∀ k, d.foot k → ¬ d'.foot k
  sep : ∀ (i : Nat) (d : PD), ds[i]? = some d → ∀ k, d.foot k → ¬ F k
  nof : ¬ F wb ∧ ∀ k, lv.ownBlock = some k → ¬ F k
  fin : ∀ k, F k → k < w.heap.size
  tab : Tab w
  bas : 3 ≤ B ∧ B ≤ wb

theorem LawAt.le {B : Nat} {w : World} {wb : Nat} {lv : Value} {bk : B4} {F : Nat → Prop} {ds : List PD} (h : LawAt B w wb lv bk F ds) : B ≤ w.heap.size := by
  have := h.blk.lt; have := h.bas.2; omega

/-- What has turned lies apart from all of it. -/
theorem LawAt.chg {B : Nat} {S : Nat → Prop} {w w' : World} {wb : Nat} {lv : Value} {bk : B4} {F : Nat → Prop} {ds : List PD} (h : LawAt B w wb lv bk F ds) (hc : Chg S w w') (h1 : ¬ S wb) (h2 : ∀ k, lv.ownBlock = some k → ¬ S k)
    (h3 : ∀ (i : Nat) (d : PD), ds[i]? = some d → ∀ k, d.foot k → ¬ S k) (h4 : ∀ k, S k → 3 ≤ k) : LawAt B w' wb lv bk F ds :=
  ⟨h.blk.chg hc h1, ownsRow_chg h.prs hc h2, fun i d hd => (h.at_ i d hd).chg hc (h3 i d hd), h.dis, h.sep, h.nof, fun k hk => Nat.lt_of_lt_of_le (h.fin k hk) hc.size, h.tab.chg hc h4, h.bas⟩
theorem LawAt.below {B : Nat} {w w' : World} {wb : Nat} {lv : Value} {bk : B4} {F : Nat → Prop} {ds : List PD} (h : LawAt B w wb lv bk F ds) (hb : Below w.heap.size w w') : LawAt B w' wb lv bk F ds :=
  h.chg (Chg.ofBelow (S := fun _ => False) hb) id (fun _ _ => id) (fun _ _ _ _ _ => id) (fun _ e => e.elim)

/-- One pair has turned, within what it lay in and what is new. -/
theorem LawAt.turn {B : Nat} {w w' : World} {wb : Nat} {lv : Value} {bk : B4} {F : Nat → Prop} {ds : List PD} (h : LawAt B w wb lv bk F ds) {i : Nat} {d d' : PD} (hi : ds[i]? = some d) (hb : d'.bb = d.bb) (hsb : d'.sb = d.sb)
    (hc : Chg d.foot w w') (hp : PairAt B w' d') (hf : ∀ k, d'.foot k → d.foot k ∨ w.heap.size ≤ k) : LawAt B w' wb lv bk F (ds.set i d') := by
  have hil : i < ds.length := (List.getElem?_eq_some_iff.1 hi).1
  have hd := h.at_ i d hi
  have other : ∀ (j : Nat) (x : PD), (ds.set i d')[j]? = some x → (j = i ∧ x = d') ∨ (j ≠ i ∧ ds[j]? = some x) := fun j x hx => by
    by_cases e : j = i
    · subst e; rw [List.getElem?_set_self hil] at hx; exact Or.inl ⟨rfl, (Option.some.inj hx).symm⟩
    · rw [List.getElem?_set_ne (Ne.symm e)] at hx; exact Or.inr ⟨e, hx⟩
  have hwb : ¬ d.foot wb := hd.otherB h.blk (by decide) (by decide) (by decide) (by decide) (by decide)
  have hlv : ∀ k, lv.ownBlock = some k → ¬ d.foot k := fun k hk => hd.other h.prs (by decide) (by decide) (by decide) (by decide) (by decide) hk
  have hcells : (ds.set i d').flatMap PD.cells = ds.flatMap PD.cells := by
    rw [List.flatMap_def, List.flatMap_def, List.map_set]
    have e : d'.cells = d.cells := by unfold PD.cells; rw [hb, hsb]
    rw [e]
    congr 1
    apply List.ext_getElem?
    intro j
    by_cases hj : j = i
    · subst hj; rw [List.getElem?_set_self (by simpa using hil), List.getElem?_map, hi]; rfl
    · rw [List.getElem?_set_ne (Ne.symm hj)]
  refine ⟨h.blk.chg hc hwb, ?_, ?_, ?_, ?_, h.nof, fun k hk => Nat.lt_of_lt_of_le (h.fin k hk) hc.size, ?_, h.bas⟩
  · rw [hcells, List.length_set]; exact ownsRow_chg h.prs hc hlv
  · intro j x hx
    rcases other j x hx with ⟨_, rfl⟩ | ⟨hne, hx⟩
    · exact hp
    · exact (h.at_ j x hx).chg hc (h.dis j i x d hx hi hne)
  · intro j l x y hx hy hne k h1 h2
    rcases other j x hx with ⟨e1, rfl⟩ | ⟨e1, hx'⟩ <;> rcases other l y hy with ⟨e2, e3⟩ | ⟨e2, hy'⟩
    · omega
    · rcases hf k h1 with h3 | h3
      · exact h.dis i l d y hi hy' (Ne.symm e2) k h3 h2
      · have := (h.at_ l y hy').lt h2; omega
    · subst e3
      rcases hf k h2 with h3 | h3
      · exact h.dis i j d x hi hx' (Ne.symm e1) k h3 h1
      · have := (h.at_ j x hx').lt h1; omega
    · exact h.dis j l x y hx' hy' hne k h1 h2
  · intro j x hx k hk hF
    rcases other j x hx with ⟨_, rfl⟩ | ⟨hne, hx⟩
    · rcases hf k hk with h3 | h3
      · exact h.sep i d hi k h3 hF
      · have := h.fin k hF; omega
    · exact h.sep j x hx k hk hF
  · exact h.tab.chg hc (fun k hk => Nat.le_trans h.bas.1 (hd.fp k hk))

theorem LawAt.push {B : Nat} {w w2 : World} {wb : Nat} {lv v2 : Value} {bk : B4} {F : Nat → Prop} {ds : List PD} {d : PD} (h : LawAt B w wb lv bk F ds) (hd : PairAt B w d)
    (h1 : ∀ (i : Nat) (x : PD), ds[i]? = some x → ∀ k, x.foot k → ¬ d.foot k) (h2 : ∀ k, d.foot k → ¬ F k)
    (hr : w2.ownsRow B 135 2 v2 (ds.length + 1) (ds.flatMap PD.cells ++ d.cells)) (hc : Chg (fun b => lv.ownBlock = some b) w w2) (hv : ∀ k, v2.ownBlock = some k → lv.ownBlock = some k ∨ w.heap.size ≤ k) :
    LawAt B (w2.setCell ⟨wb, 0, none⟩ v2) wb v2 bk F (ds ++ [d]) := by
  have nl : ∀ (x : PD), PairAt B w x → ∀ k, x.foot k → ¬ lv.ownBlock = some k := fun x hx k hk e => hx.other h.prs (by decide) (by decide) (by decide) (by decide) (by decide) e hk
  have nw : ∀ (x : PD), PairAt B w x → ¬ x.foot wb := fun x hx => hx.otherB h.blk (by decide) (by decide) (by decide) (by decide) (by decide)
  have hb2 : Blk w2 wb (lwC lv bk.n bk.i bk.p bk.e) 82 := h.blk.chg hc (own_blk h.prs h.blk (by decide))
  have hv2 : v2.ownBlock ≠ some wb := own_blk hr hb2 (by decide)
  have hset : Chg (fun b => b = wb) w2 (w2.setCell ⟨wb, 0, none⟩ v2) := (Chg.refl (fun b => b = wb) w2).setCell (p := ⟨wb, 0, none⟩) rfl _
  have pair : ∀ (x : PD), PairAt B w x → PairAt B (w2.setCell ⟨wb, 0, none⟩ v2) x := fun x hx => (hx.chg hc (nl x hx)).chg hset (fun k hk e => nw x hx (by rw [← e]; exact hk))
  have last : ∀ (j : Nat) (x : PD), (ds ++ [d])[j]? = some x → (j < ds.length ∧ ds[j]? = some x) ∨ (j = ds.length ∧ x = d) := fun j x hx => by
    by_cases hj : j < ds.length
    · rw [List.getElem?_append_left hj] at hx; exact Or.inl ⟨hj, hx⟩
    · rw [List.getElem?_append_right (by omega)] at hx
      by_cases e : j - ds.length = 0
      · rw [e] at hx; simp at hx; exact Or.inr ⟨by omega, hx.symm⟩
      · rw [List.getElem?_eq_none (by simp; omega)] at hx; cases hx
  refine ⟨?_, ?_, ?_, ?_, ?_, ⟨h.nof.1, fun k hk hF => ?_⟩, fun k hk => Nat.lt_of_lt_of_le (h.fin k hk) (Nat.le_trans hc.size hset.size), ?_, h.bas⟩
  · have := hb2.set (o := 0) v2
    simpa [lwC] using this
  · rw [List.length_append, List.length_singleton, List.flatMap_append]
    have := ownsRow_chg hr hset (fun k hk e => hv2 (by rw [hk, e]))
    simpa using this
  · intro j x hx
    rcases last j x hx with ⟨_, hx⟩ | ⟨_, rfl⟩
    · exact pair x (h.at_ j x hx)
    · exact pair _ hd
  · intro i j x y hx hy hne k a1 a2
    rcases last i x hx with ⟨_, hx'⟩ | ⟨e1, e4⟩ <;> rcases last j y hy with ⟨_, hy'⟩ | ⟨e2, e3⟩
    · exact h.dis i j x y hx' hy' hne k a1 a2
    · rw [e3] at a2; exact h1 i x hx' k a1 a2
    · rw [e4] at a1; exact h1 j y hy' k a2 a1
    · omega
  · intro j x hx k hk
    rcases last j x hx with ⟨_, hx⟩ | ⟨_, rfl⟩
    · exact h.sep j x hx k hk
    · exact h2 k hk
  · rcases hv k hk with e | e
    · exact h.nof.2 k e hF
    · have := h.fin k hF; omega
  · refine (h.tab.chg hc (fun k hk => Nat.le_trans h.bas.1 (own_base h.prs hk))).chg hset (fun k e => ?_)
    rw [e]; exact Nat.le_trans h.bas.1 h.bas.2

def prz : Value := .agg #[.pointer none, .pointer none]
theorem Tryz.infoPr : (Tryz.prog.info? 135).map (fun i => (i.zero, i.size, i.bytes)) = some (some prz, 2, 16) := by kernel_rfl

set_option maxRecDepth 100000 in
set_option maxHeartbeats 8000000 in
theorem law_made {B : Nat} {w : World} {wb : Nat} {lv : Value} {bk : B4} {F : Nat → Prop} {ds : List PD} (h : LawAt B w wb lv bk F ds) (hl : ds.length ≤ 10000000) :
    Calls Tryz.prog 53 #[.pointer (some ⟨wb, 0, none⟩)] w fun e w' => e = .returned (.bool true) ∧ ∃ lv' d, LawAt B w' wb lv' bk F (ds ++ [d]) ∧ Chg (fun b => b = wb ∨ lv.ownBlock = some b) w w' := by
  obtain ⟨lad, lcap, hlv, _, _⟩ := row_shape h.prs
  subst hlv
  have HNW := hidden (forth_new w h.tab)
  have HL := hidden h
  have hB := h.le
  have hwlt := h.blk.lt
  clear h
  go_enter Tryz.func53, Tryz.ntmps53
  go_wp2_with fail
  refine HNW.out.mono ?_
  rintro e w1 ⟨bb, hbb, rfl, hps, hbel⟩
  have hL1 := HL.out.below hbel
  have c0 : w1.cell? ⟨wb, 0, none⟩ = some (.slice lad ds.length lcap) := hL1.blk.cell 0 _ rfl
  have HPS := hidden hps; have HL1 := hidden hL1; have HBE := hidden hbel
  have hs1 := hbel.size
  obtain ⟨i0, hi, hz0, hz1, hz2⟩ := info_parts Tryz.infoPr
  have HI := hidden (And.intro hi (And.intro hz0 (And.intro hz1 hz2)))
  clear HNW hps hL1 hbel hi hz0 hz1 hz2
  obtain ⟨sb, hsb⟩ : ∃ sb, sb = w1.heap.size := ⟨_, rfl⟩
  obtain ⟨X, hX⟩ : ∃ X : World, X = w1.alloc (.cells #[.slice none 0 0, .int .i64 0, .int .i64 0] 163 (0, 0)) := ⟨_, rfl⟩
  have hbX : Below w1.heap.size w1 X := by rw [hX]; exact (Below.refl _ _).alloc (Nat.le_refl _) _
  have hXs : X.heap.size = sb + 1 := by rw [hX, hsb]; simp
  have hkX : Blk X sb #[.slice none 0 0, .int .i64 0, .int .i64 0] 163 := by rw [hX, hsb]; exact blk_new w1 _ _
  obtain ⟨Y, hY⟩ : ∃ Y : World, Y = X.alloc (.cells #[.pointer (some ⟨bb, 0, none⟩), .pointer (some ⟨sb, 0, none⟩)] 135 (0, 0)) := ⟨_, rfl⟩
  have hbY : Below X.heap.size X Y := by rw [hY]; exact (Below.refl _ _).alloc (Nat.le_refl _) _
  have hYs : Y.heap.size = sb + 1 + 1 := by rw [hY]; simp [hXs]
  have hLY : LawAt B Y wb (.slice lad ds.length lcap) bk F ds := (HL1.out.below hbX).below hbY
  have hpY : PSys Y bb (.slice none 0 0) (.slice none 0 0) [] 0 0 [] := (HPS.out.below hbX).below hbY
  have hrY : RefSys Y sb (.slice none 0 0) [] 0 0 := ⟨hkX.sub hbY (by omega), ⟨rfl, Or.inl ⟨rfl, rfl⟩⟩, by simp [Value.ownBlock]⟩
  have hft : ∀ k, (PD.fresh bb sb).foot k → k = bb ∨ k = sb := fun k hk => by
    rcases hk with e | e | e | e | e
    · exact Or.inl e
    · cases e
    · cases e
    · exact Or.inr e
    · cases e
  have hdY : PairAt B Y (PD.fresh bb sb) := ⟨hpY, LInv.zero, hrY, Alike.nil, (fun x hx => by cases hx), (fun k hk => by rcases hft k hk with e | e <;> omega)⟩
  have hnew : ∀ k, (PD.fresh bb sb).foot k → w.heap.size ≤ k := fun k hk => by rcases hft k hk with e | e <;> omega
  have hn1 : ∀ (i : Nat) (x : PD), ds[i]? = some x → ∀ k, x.foot k → ¬ (PD.fresh bb sb).foot k := fun i x hx k hk e => by
    have := (HL.out.at_ i x hx).lt hk; have := hnew k e; omega
  have hn2 : ∀ k, (PD.fresh bb sb).foot k → ¬ F k := fun k hk e => by have := HL.out.fin k e; have := hnew k hk; omega
  have hcY : Chg (fun b => b = wb ∨ (Value.slice lad ds.length lcap).ownBlock = some b) w Y := ((Chg.ofBelow HBE.out).trans (Chg.ofBelow hbX)).trans (Chg.ofBelow hbY)
  have HLY := hidden hLY; have HDY := hidden hdY; have HN1 := hidden hn1; have HN2 := hidden hn2; have HCY := hidden hcY
  have HNE := hidden (show ∀ j u, ([.pointer (some ⟨bb, 0, none⟩), .pointer (some ⟨sb, 0, none⟩)] : List Value)[j]? = some u → Y.cell? ((Addr.mk (sb + 1) 0 none).add j) = some u by rw [hY, ← hXs]; exact World.news_of_block (fr := (0, 0)) (heap_alloc_new X _))
  have HON := hidden (show ∀ u ∈ ([.pointer (some ⟨bb, 0, none⟩), .pointer (some ⟨sb, 0, none⟩)] : List Value), u.oneCell' = true by intro u hu; simp at hu; rcases hu with rfl | rfl <;> rfl)
  have HQ := hidden (And.intro (show ds.length + 1 ≤ maxLen by unfold maxLen; omega) (show (ds.length + 1) * 16 ≤ 140737488355328 by omega))
  have HBY := hidden (show B ≤ Y.heap.size by omega)
  have HYS := hidden hYs
  clear hbX hXs hkX hbY hYs hLY hpY hrY hft hdY hnew hn1 hn2 hcY
  subst hY
  subst hX
  subst hsb
  go_wp2_with (at_builtin; refine wpList_append_lies _ rfl _ _ 74 rfl B 135 i0 prz 2 16 Tryz.underlying74 HI.out.1 HI.out.2.1 HI.out.2.2.1 HI.out.2.2.2 rfl (by decide) (.slice lad ds.length lcap) ds.length (ds.flatMap PD.cells) rfl HLY.out.prs (Addr.mk (w1.heap.size + 1) 0 none) 1 1 [.pointer (some ⟨bb, 0, none⟩), .pointer (some ⟨w1.heap.size, 0, none⟩)] rfl rfl HNE.out HON.out (by decide) HQ.out.1 HQ.out.2 HBY.out (w1.heap.size + 1 + 1) HYS.out ?_)
  intro g2 cap2 w2 hr2 hg2 hat2 hlt2
  have hcg : Chg (fun b => (Value.slice lad ds.length lcap).ownBlock = some b) _ w2 := (Chg.ofGrown hg2).mono (fun k _ e => e.symm)
  have hfin := HLY.out.push HDY.out HN1.out HN2.out hr2 hcg (fun k hk => by
    simp only [Value.ownBlock, Option.some.injEq] at hk; subst hk
    exact hat2.imp id (fun e => by rw [e, HYS.out]; exact Nat.le_refl _))
  have hcw : Chg (fun b => b = wb ∨ (Value.slice lad ds.length lcap).ownBlock = some b) w w2 := HCY.out.trans (hcg.mono (fun k _ e => Or.inr e))
  have hb2 := HLY.out.blk.chg hcg (own_blk HLY.out.prs HLY.out.blk (by decide))
  have d0 : w2.cell? ⟨wb, 0, none⟩ = some (.slice lad ds.length lcap) := hb2.cell 0 _ rfl
  have d1 := hb2.frozen 0
  have HFI := hidden hfin; have HCC := hidden (hcw.setCell (p := ⟨wb, 0, none⟩) (Or.inl rfl) (.slice (some ⟨g2, 0, none⟩) (ds.length + 1) cap2))
  clear hr2 hg2 hat2 hlt2 hcg hfin hcw hb2 c0
  go_wp2_with fail
  go_ret
  exact ⟨rfl, _, _, HFI.out, HCC.out⟩

end Go.Proofs.YtogcdcdhogcogaaGreatDoor

/- The law: Words. -/
namespace Go.Proofs.YtogcdcdhogcogaaGreatDoor
open Go Go.RowKit
set_option linter.unusedVariables false
set_option linter.unusedSimpArgs false

/-- The names that came out; no other lists. -/
structure BookN (B : Nat) (w : World) (bk : B4) (F : Nat → Prop) (gs : List Value) : Prop where
  nms : w.ownsRow B 66 1 bk.n gs.length gs
  mrk : ∀ (i : Nat) (u : Value), gs[i]? = some u → Marked B w u (i / 4)
  fN : ∀ k, bk.n.ownBlock = some k → F k
  fM : ∀ (i : Nat) (u : Value), gs[i]? = some u → ∀ k, u.ownBlock = some k → F k
  four : gs.length % 4 = 0
  i0 : bk.i = nilV
  p0 : bk.p = nilV
  e0 : bk.e = nilV

theorem BookN.chg {B : Nat} {S : Nat → Prop} {w w' : World} {bk : B4} {F : Nat → Prop} {gs : List Value} (h : BookN B w bk F gs) (hc : Chg S w w') (hs : ∀ k, F k → ¬ S k) : BookN B w' bk F gs :=
  ⟨ownsRow_chg h.nms hc (fun k hk => hs k (h.fN k hk)), fun i u hu => (h.mrk i u hu).chg hc (fun k hk => hs k (h.fM i u hu k hk)), h.fN, h.fM, h.four, h.i0, h.p0, h.e0⟩

/-- The book has turned. -/
theorem LawAt.book {B : Nat} {S : Nat → Prop} {w w' : World} {wb : Nat} {lv : Value} {bk bk' : B4} {F F' : Nat → Prop} {ds : List PD} (h : LawAt B w wb lv bk F ds) (hc : Chg S w w') (hb : Blk w' wb (lwC lv bk'.n bk'.i bk'.p bk'.e) 82)
    (h2 : ∀ k, lv.ownBlock = some k → ¬ S k) (h3 : ∀ (i : Nat) (d : PD), ds[i]? = some d → ∀ k, d.foot k → ¬ S k) (h4 : ∀ k, S k → 3 ≤ k)
    (hF : ∀ k, F' k → (∀ (i : Nat) (d : PD), ds[i]? = some d → ¬ d.foot k) ∧ k ≠ wb ∧ lv.ownBlock ≠ some k ∧ k < w'.heap.size) : LawAt B w' wb lv bk' F' ds :=
  ⟨hb, ownsRow_chg h.prs hc h2, fun i d hd => (h.at_ i d hd).chg hc (h3 i d hd), h.dis, fun i d hd k hk hf => (hF k hf).1 i d hd hk, ⟨fun hf => (hF _ hf).2.1 rfl, fun k hk hf => (hF k hf).2.2.1 hk⟩, fun k hk => (hF k hk).2.2.2, h.tab.chg hc h4, h.bas⟩

theorem rowIs_own {w : World} {B g n : Nat} {t : TypeId} {f : Nat → Value} (h : w.rowIs g t n f) (hB : B ≤ g) (hn : n ≤ maxLen) : ∃ xs, w.ownsRow B t 1 (.slice (some ⟨g, 0, none⟩) n n) n xs := by
  obtain ⟨c, hc, hs, _⟩ := h
  exact ⟨c.toList, by simp [hs], Or.inr ⟨g, n, c, rfl, hB, hc, Nat.le_refl _, hn, by omega, by rw [Nat.mul_one, ← hs]; exact List.take_of_length_le (by simp)⟩⟩

set_option maxRecDepth 100000 in
set_option maxHeartbeats 8000000 in
theorem law_words {B : Nat} {w : World} {wb : Nat} {lv : Value} {bk : B4} {F : Nat → Prop} {ds : List PD} {gs : List Value} {i : Nat} {d : PD} (h : LawAt B w wb lv bk F ds) (hk : BookN B w bk F gs) (hi : ds[i]? = some d) (hg : gs.length ≤ 9000000) :
    Calls Tryz.prog 56 #[.pointer (some ⟨wb, 0, none⟩), .agg #[.pointer (some ⟨d.bb, 0, none⟩), .pointer (some ⟨d.sb, 0, none⟩)]] w fun e w' => e = .returned (.bool true) ∧ ∃ bk' F' gs', LawAt B w' wb lv bk' F' ds ∧ BookN B w' bk' F' gs' ∧ gs'.length = gs.length + 4 ∧ Below B w w' := by
  obtain ⟨pb, hpb⟩ : ∃ pb, pb = w.heap.size := ⟨_, rfl⟩
  have hb0 : Below w.heap.size w (w.alloc (.cells #[.pointer (some ⟨d.bb, 0, none⟩), .pointer (some ⟨d.sb, 0, none⟩)] 135 (0, 0))) := (Below.refl _ _).alloc (Nat.le_refl _) _
  obtain ⟨X, hX⟩ : ∃ X : World, X = w.alloc (.cells #[.pointer (some ⟨d.bb, 0, none⟩), .pointer (some ⟨d.sb, 0, none⟩)] 135 (0, 0)) := ⟨_, rfl⟩
  have hkX : Blk X pb #[.pointer (some ⟨d.bb, 0, none⟩), .pointer (some ⟨d.sb, 0, none⟩)] 135 := by rw [hX, hpb]; exact blk_new w _ _
  rw [← hX] at hb0
  have hLX := h.below hb0
  have hdX := hLX.at_ i d hi
  have hal := hdX.al
  have hle := hdX.li.l
  have HW := hidden (forth_words hdX.ps (by omega) hLX.tab)
  have HBX := hidden hb0; have HLX := hidden hLX; have HK := hidden hk; have HKX := hidden hkX; have HX := hidden hX; have HPB := hidden hpb
  have p0 : X.cell? ⟨pb, 0, none⟩ = some (.pointer (some ⟨d.bb, 0, none⟩)) := hkX.cell 0 _ rfl
  have HI := hidden hi; have HAL := hidden hal; have HL0 := hidden h
  clear h hk hi hb0 hkX hLX hdX hal hX hpb
  go_enter Tryz.func56, Tryz.ntmps56
  go_upto_region 1 with fail
  rw [← HX.out, ← HPB.out]
  go_wp2_with fail
  refine HW.out.mono ?_
  rintro e w1 ⟨g, rfl, hg1, hrow, hb1⟩
  have hL1 := HLX.out.below hb1
  have hK1 : Blk w1 pb #[.pointer (some ⟨d.bb, 0, none⟩), .pointer (some ⟨d.sb, 0, none⟩)] 135 := HKX.out.sub hb1 HKX.out.lt
  have hd1 := hL1.at_ i d HI.out
  obtain ⟨sad, scap, hsv, hsc, _⟩ := row_shape hd1.rs.row
  have q1 : w1.cell? ⟨pb, 1, none⟩ = some (.pointer (some ⟨d.sb, 0, none⟩)) := hK1.cell 1 _ rfl
  have q2 : w1.cell? ⟨d.sb, 0, none⟩ = some (.slice sad d.ws.length scap) := by rw [← hsv]; exact hd1.rs.cells.1
  have hlen : d.es.length = d.ws.length := HAL.out.len
  rw [hlen] at hrow hle
  rw [hlen]
  obtain ⟨N, hN⟩ : ∃ N, N = d.ws.length := ⟨_, rfl⟩
  rw [← hN] at hrow q2 hle
  rw [← hN]
  have HN := hidden hN; have HL1 := hidden hL1; have HRW := hidden hrow; have HB1 := hidden (HBX.out.trans (hb1.mono HBX.out.size)); have HSV := hidden hsv; have HD1 := hidden hd1; have HK1 := hidden hK1
  have hgw : w.heap.size ≤ g := Nat.le_trans HBX.out.size hg1
  clear HW hrow hb1 hL1 hK1 hd1 hN hlen hsv p0 HLX HKX HX
  go_wp2_with fail
  go_loopw [6, 7] (fun o i wr => o = .bool true ∧ ∃ k : Nat, k ≤ N ∧ i = .int .i64 k ∧ Hid (Below w1.heap.size w1 wr)) (fun _ i _ => N - (intOf i).toNat)
  case atStart => exact ⟨rfl, 0, Nat.zero_le _, rfl, Below.refl _ _⟩
  case round =>
    obtain ⟨rfl, k, hkN, rfl, HBR⟩ := hrel
    have hLr := HL1.out.below HBR.out
    have hdr := hLr.at_ i d HI.out
    have hKr := HK1.out.sub HBR.out HK1.out.lt
    have t1 : wr.cell? ⟨pb, 1, none⟩ = some (.pointer (some ⟨d.sb, 0, none⟩)) := hKr.cell 1 _ rfl
    have t2 : wr.cell? ⟨d.sb, 0, none⟩ = some (.slice sad N scap) := by rw [HN.out, ← HSV.out]; exact hdr.rs.cells.1
    have hRr := HRW.out.of_block (HBR.out.block g HRW.out.lt)
    by_cases hlt : k < N
    · have hli : (k : Int) < (N : Int) := by omega
      have hl0 : (0 : Int) ≤ (k : Int) := by omega
      have hd : decide ((k : Int) < (N : Int)) = true := by simpa using hlt
      obtain ⟨x, hx⟩ : ∃ x, x = nameAt d.ws k := ⟨_, rfl⟩
      have e1 : wr.cell? ⟨g, k, none⟩ = some (.string x) := by
        rw [hRr.cell hlt, hx]
        have hnm := congrArg (fun l => l.getD k ⟨#[]⟩) HAL.out.names
        have hlw : k < d.ws.length := by rw [← HN.out]; exact hlt
        have hle' : k < d.es.length := by rw [HAL.out.len]; exact hlw
        simp [hlw, hle'] at hnm
        simp [nameAt, hlw, hle', hnm]
      obtain ⟨sg, scap', hsv2, _, hsg, _, _, _⟩ := row_cells hdr.rs.row (by rw [← HN.out]; omega)
      have hsv3 := HSV.out
      rw [hsv3] at hsv2
      obtain ⟨rfl, rfl⟩ : sad = some ⟨sg, 0, none⟩ ∧ scap = scap' := by simpa using hsv2
      have e2 : wr.cell? ⟨sg, k * 8, none⟩ = some (.string x) := by
        have := ws_cell hdr.rs.row hsv3 k 0 (by rw [← HN.out]; exact hlt) (.string (d.ws[k]'(by rw [← HN.out]; exact hlt)).name) (by omega) rfl
        rw [Nat.add_zero] at this
        rw [this, hx]
        simp [nameAt, show k < d.ws.length by rw [← HN.out]; exact hlt]
      clear hx hsv2 hsv3 hLr hdr hKr hRr hsg
      go_wp2_with fail
      go_quiet (fail)
      go_wp2_with fail
      go_roundw
      case rel => exact ⟨rfl, k + 1, by omega, by go_num, hidden (HBR.out.trans ⟨rfl, rfl, rfl, Nat.le_refl _, fun _ _ => rfl⟩)⟩
      case measure => simp [intOf]; omega
    · obtain rfl : k = N := by omega
      have hli : ¬ (k : Int) < (k : Int) := by omega
      have hbW : Below w.heap.size w wr := HB1.out.trans (HBR.out.mono HB1.out.size)
      have hKw := HK.out.chg (Chg.ofBelow (S := fun _ => False) hbW) (fun _ _ => id)
      have hBg : B ≤ g := Nat.le_trans HL0.out.le hgw
      obtain ⟨xs, hxs⟩ := rowIs_own (B := B) hRr hBg (by unfold maxLen; omega)
      have hblk := hLr.blk
      have HKP := hidden (law_keepsNames B wr wb lv bk.n bk.i bk.p bk.e gs g k xs hblk hKw.nms (by omega) (by omega) hLr.le hxs)
      have HLR := hidden hLr; have HKW := hidden hKw; have HBW := hidden hbW; have HXS := hidden hxs
      have hwbw := hLr.blk.lt
      clear hLr hdr hKr hRr t1 t2 hbW hKw hxs hblk HL1 HRW HK1 HD1
      go_wp2_with fail
      refine HKP.out.mono ?_
      rintro e w5 ⟨rfl, nv', u1, u2, u3, hb5, hr5, m0, m1, m2, m3, hown5, hlc5, hc5⟩
      have H5 := hidden (And.intro hb5 (And.intro hr5 (And.intro m0 (And.intro m1 (And.intro m2 (And.intro m3 (And.intro hown5 (And.intro hlc5 hc5))))))))
      clear hb5 hr5 m0 m1 m2 m3 hown5 hlc5 hc5 HKP
      go_wp2_with fail
      go_ret
      obtain ⟨hb5, hr5, m0, m1, m2, m3, hown5, hlc5, hc5⟩ := H5.out
      have hwB := HL0.out.bas.2
      have hBw := HL0.out.bas.1
      have hg5 : g < w5.heap.size := Nat.lt_of_lt_of_le (own_lt HXS.out rfl) hc5.size
      have hwwr := HBW.out.size
      have hwbl := HL0.out.blk.lt
      have hsets : ∀ (j : Nat) (u : Value), (gs ++ [.slice (some ⟨g, 0, none⟩) k k, u1, u2, u3])[j]? = some u → (j < gs.length ∧ gs[j]? = some u) ∨ (gs.length ≤ j ∧ j < gs.length + 4 ∧ (u = .slice (some ⟨g, 0, none⟩) k k ∨ u = u1 ∨ u = u2 ∨ u = u3)) := fun j u hu => by
        by_cases hj : j < gs.length
        · rw [List.getElem?_append_left hj] at hu; exact Or.inl ⟨hj, hu⟩
        · rw [List.getElem?_append_right (by omega)] at hu
          refine Or.inr ⟨by omega, ?_, ?_⟩
          · have := (List.getElem?_eq_some_iff.1 hu).1; simp at this; omega
          · have hm := List.mem_of_getElem? hu
            simpa using hm
      have hnew : ∀ u : Value, (u = .slice (some ⟨g, 0, none⟩) k k ∨ u = u1 ∨ u = u2 ∨ u = u3) → (∀ b, u.ownBlock = some b → w.heap.size ≤ b ∧ b < w5.heap.size) ∧ Marked B w5 u (gs.length / 4) := fun u hu => by
        have lt5 : ∀ v q, Marked B w5 v q → ∀ b, v.ownBlock = some b → b < w5.heap.size := fun v q ⟨_, _, hr⟩ b hb => own_lt hr hb
        rcases hu with rfl | hu
        · exact ⟨fun b hb => ⟨by simp only [Value.ownBlock, Option.some.injEq] at hb; omega, lt5 _ _ m0 b hb⟩, m0⟩
        · have hm : Marked B w5 u (gs.length / 4) := by rcases hu with rfl | rfl | rfl <;> assumption
          exact ⟨fun b hb => ⟨by rcases hown5 u hu b hb with e | e <;> omega, lt5 _ _ hm b hb⟩, hm⟩
      have hFF : ∀ b, (nv'.ownBlock = some b ∨ ∃ (j : Nat) (u : Value), (gs ++ [Value.slice (some ⟨g, 0, none⟩) k k, u1, u2, u3])[j]? = some u ∧ u.ownBlock = some b) → (F b ∨ w.heap.size ≤ b) ∧ b < w5.heap.size := fun b hb => by
        rcases hb with hb | ⟨j, u, hu, hb⟩
        · refine ⟨?_, own_lt hr5 hb⟩
          rcases hlc5 b hb with e | e
          · exact Or.inl (HKW.out.fN b e)
          · right; omega
        · rcases hsets j u hu with ⟨_, hu⟩ | ⟨_, _, hu⟩
          · have := HKW.out.fM j u hu b hb
            exact ⟨Or.inl this, Nat.lt_of_lt_of_le (HLR.out.fin b this) hc5.size⟩
          · exact ⟨Or.inr ((hnew u hu).1 b hb).1, ((hnew u hu).1 b hb).2⟩
      have hnf := HLR.out.nof
      have hlvlt : ∀ b, lv.ownBlock = some b → b < w.heap.size := fun b hb => own_lt HL0.out.prs hb
      refine ⟨rfl, ⟨nv', bk.i, bk.p, bk.e⟩, _, gs ++ [.slice (some ⟨g, 0, none⟩) k k, u1, u2, u3], HLR.out.book (F' := fun b => nv'.ownBlock = some b ∨ ∃ (j : Nat) (u : Value), (gs ++ [Value.slice (some ⟨g, 0, none⟩) k k, u1, u2, u3])[j]? = some u ∧ u.ownBlock = some b) hc5 hb5 ?_ ?_ ?_ ?_, ⟨?_, ?_, fun b hb => Or.inl hb, fun j u hu b hb => Or.inr ⟨j, u, hu, hb⟩, ?_, HKW.out.i0, HKW.out.p0, HKW.out.e0⟩, by simp, ?_⟩
      · rintro b hb (e | e | e)
        · subst e; exact own_blk HLR.out.prs HLR.out.blk (by decide) hb
        · have := hlvlt b hb; omega
        · exact hnf.2 b hb (HKW.out.fN b e)
      · rintro j x hx b hb (e | e | e)
        · subst e; exact (HLR.out.at_ j x hx).otherB HLR.out.blk (by decide) (by decide) (by decide) (by decide) (by decide) hb
        · have := (HL0.out.at_ j x hx).lt hb; omega
        · exact HLR.out.sep j x hx b hb (HKW.out.fN b e)
      · rintro b (e | e | e)
        · omega
        · have := HL0.out.le; omega
        · have := own_base HKW.out.nms e; omega
      · intro b hb
        obtain ⟨h1, h2⟩ := hFF b hb
        refine ⟨fun j x hx hf => ?_, fun e => ?_, fun e => ?_, h2⟩
        · rcases h1 with h1 | h1
          · exact HLR.out.sep j x hx b hf h1
          · have := (HL0.out.at_ j x hx).lt hf; omega
        · subst e
          rcases h1 with h1 | h1
          · exact hnf.1 h1
          · omega
        · rcases h1 with h1 | h1
          · exact hnf.2 b e h1
          · have := hlvlt b e; omega
      · have := hr5; simpa using this
      · intro j u hu
        rcases hsets j u hu with ⟨_, hu'⟩ | ⟨j1, j2, hu'⟩
        · have hM := HKW.out.mrk j u hu'
          refine hM.chg hc5 (fun b hb e => ?_)
          have hfb := HK.out.fM j u hu' b hb
          obtain ⟨kk, _, hr⟩ := hM
          rcases e with e | e | e
          · subst e; exact own_blk hr HLR.out.blk (by decide) hb
          · have := HL0.out.fin b hfb; omega
          · exact own_own hr HKW.out.nms (by decide) hb e
        · have hq : j / 4 = gs.length / 4 := by have := HK.out.four; omega
          rw [hq]; exact (hnew u hu').2
      · have := HK.out.four; simp; omega
      · refine (HBW.out.mono HL0.out.le).trans (hc5.toBelow HLR.out.le (fun b hb e => ?_))
        rcases e with e | e | e
        · omega
        · have := HL0.out.le; omega
        · have := own_base HKW.out.nms e; omega

end Go.Proofs.YtogcdcdhogcogaaGreatDoor

/- The law's steps: New, Load. -/
namespace Go.Proofs.YtogcdcdhogcogaaGreatDoor
open Go Go.RowKit
set_option linter.unusedVariables false
set_option linter.unusedSimpArgs false
attribute [local go_sem] quietF

/-- What a step leaves. -/
def LStep (B : Nat) (w : World) (wb : Nat) (ds : List PD) (gs : List Value) (n : Nat) (e : Ending) (w' : World) : Prop :=
  e = .returned (.bool true) ∧ ∃ lv' bk' F' ds' gs', LawAt B w' wb lv' bk' F' ds' ∧ BookN B w' bk' F' gs' ∧ ds.length + n ≤ ds'.length ∧ ds'.length ≤ ds.length + 1 ∧ gs'.length ≤ gs.length + 4 ∧ Below B w w'

theorem pick_nat (c : Int) (n : Nat) (hn : 0 < n) : ∃ i : Nat, pickS c n = (i : Int) ∧ i < n := by
  obtain ⟨h1, h2⟩ := pickS_bd c n (by omega)
  exact ⟨(pickS c n).toNat, by omega, by omega⟩

/-- What Find gives is the same. -/
theorem find_eq {es : List PE} {ws : List RW} (hA : Alike es ws) (s : ByteArray) : findRes (lastP es s es.length) = .tuple #[(findI ws s).1.val, .int .i64 (findI ws s).2] := by
  rw [last_findW hA.names s]
  have hb := lastK_lt (nameAt ws) s ws.length
  have hb' : findW ws s < ws.length ∧ -1 ≤ findW ws s := hb
  unfold findI
  by_cases h0 : 0 ≤ findW ws s
  · rw [if_pos h0, if_neg (by omega)]
    obtain ⟨i, hi⟩ : ∃ i : Nat, findW ws s = i := ⟨(findW ws s).toNat, by omega⟩
    rw [hi] at hb' ⊢
    simp only [Int.toNat_natCast]
    have hiw : i < ws.length := by omega
    have hie : i < es.length := by rw [hA.len]; exact hiw
    have hu := hA.use i es[i] ws[i] (List.getElem?_eq_getElem hie) (List.getElem?_eq_getElem hiw)
    rw [List.getElem?_eq_getElem hiw]
    have he : es.getD i PE.zero = es[i] := by simp [hie]
    rw [he]
    simp only [findRes]
    cases hv : es[i].var with
    | true =>
      have := hu.1 hv
      rw [if_pos rfl, if_pos this.2]; rfl
    | false =>
      have := hu.2 hv
      rw [if_neg (by simp), if_neg (by rw [this.1]; decide), this.2.1]
  · rw [if_neg h0, if_pos (by omega)]
    rfl

set_option maxRecDepth 100000 in
set_option maxHeartbeats 8000000 in
theorem law_step_new {B : Nat} {w : World} {wb : Nat} {lv : Value} {bk : B4} {F : Nat → Prop} {ds : List PD} {gs : List Value} (h : LawAt B w wb lv bk F ds) (hk : BookN B w bk F gs) (hl : ds.length ≤ 9000000)
    (A C : Int) (S : ByteArray) (a1 a2 a3 : Option Addr) (n1 c1 n2 c2 n3 c3 : Nat) :
    Calls Tryz.prog 31 #[.pointer (some ⟨wb, 0, none⟩), .agg #[.int .i64 1, .int .i64 A, .int .i64 C, .string S, .slice a1 n1 c1, .slice a2 n2 c2, .slice a3 n3 c3]] w (LStep B w wb ds gs 1) := by
  have hb0 : ∀ o, Below w.heap.size w (w.alloc o) := fun o => (Below.refl _ _).alloc (Nat.le_refl _) _
  have HM := hidden (fun o => law_made (h.below (hb0 o)) (by omega))
  have HL := hidden h; have HK := hidden hk
  clear h hk hb0
  go_enter Tryz.func31, Tryz.ntmps31
  go_wp2_with fail
  refine (HM.out _).mono ?_
  rintro e w1 ⟨rfl, lv', d, hL1, hc1⟩
  have HL1 := hidden hL1; have HC1 := hidden hc1
  clear HM hL1 hc1
  go_wp2_with fail
  go_ret
  have hca := HC1.out
  have hbb : ∀ o, Below w.heap.size w (w.alloc o) := fun o => (Below.refl _ _).alloc (Nat.le_refl _) _
  refine ⟨rfl, lv', bk, F, ds ++ [d], gs, HL1.out, ?_, by simp, by simp, by omega, ?_⟩
  · refine (HK.out.chg (Chg.ofBelow (S := fun _ => False) (hbb _)) (fun _ _ => id)).chg hca (fun k hk e => ?_)
    rcases e with e | e
    · subst e; exact HL.out.nof.1 hk
    · exact HL.out.nof.2 k e hk
  · refine ((hbb _).mono HL.out.le).trans (hca.toBelow (by simp; have := HL.out.le; omega) (fun k hk e => ?_))
    rcases e with e | e
    · have := HL.out.bas.2; omega
    · have := own_base HL.out.prs e; omega

set_option maxRecDepth 100000 in
set_option maxHeartbeats 8000000 in
theorem law_step_load {B : Nat} {w : World} {wb : Nat} {lv : Value} {bk : B4} {F : Nat → Prop} {ds : List PD} {gs : List Value} (h : LawAt B w wb lv bk F ds) (hk : BookN B w bk F gs) (hp : 0 < ds.length) (hl : ds.length ≤ 9000000)
    (A C : Int) (S : ByteArray) (a1 a2 a3 : Option Addr) (n1 c1 n2 c2 n3 c3 : Nat) (hA0 : -9223372036854775808 ≤ A) (hA1 : A ≤ 9223372036854775807) (hS : S.size ≤ 1100000) :
    Calls Tryz.prog 31 #[.pointer (some ⟨wb, 0, none⟩), .agg #[.int .i64 2, .int .i64 A, .int .i64 C, .string S, .slice a1 n1 c1, .slice a2 n2 c2, .slice a3 n3 c3]] w (LStep B w wb ds gs 0) := by
  obtain ⟨lad, lcap, hlv, hlc, _⟩ := row_shape h.prs
  subst hlv
  obtain ⟨i, hpi, hil⟩ := pick_nat A ds.length hp
  obtain ⟨d, hd⟩ : ∃ d, ds[i]? = some d := ⟨_, List.getElem?_eq_getElem hil⟩
  obtain ⟨X, hX⟩ : ∃ X : World, X = w.alloc (.cells #[.int .i64 2, .int .i64 A, .int .i64 C, .string S, .slice a1 n1 c1, .slice a2 n2 c2, .slice a3 n3 c3] 84 (0, 0)) := ⟨_, rfl⟩
  obtain ⟨ob, hob⟩ : ∃ ob, ob = w.heap.size := ⟨_, rfl⟩
  have hbX : Below w.heap.size w X := by rw [hX]; exact (Below.refl _ _).alloc (Nat.le_refl _) _
  have hkX : Blk X ob #[.int .i64 2, .int .i64 A, .int .i64 C, .string S, .slice a1 n1 c1, .slice a2 n2 c2, .slice a3 n3 c3] 84 := by rw [hX, hob]; exact blk_new w _ _
  have hLX := h.below hbX
  have hBX := hk.chg (Chg.ofBelow (S := fun _ => False) hbX) (fun _ _ => id)
  have o0 : X.cell? ⟨ob, 0, none⟩ = some (.int .i64 2) := hkX.cell 0 _ rfl
  have o1 : X.cell? ⟨ob, 1, none⟩ = some (.int .i64 A) := hkX.cell 1 _ rfl
  have o3 : X.cell? ⟨ob, 3, none⟩ = some (.string S) := hkX.cell 3 _ rfl
  have w0 : X.cell? ⟨wb, 0, none⟩ = some (.slice lad ds.length lcap) := hLX.blk.cell 0 _ rfl
  obtain ⟨lg, lcap', hv, _, hlgx, _, _, hcell⟩ := row_cells hLX.prs hp
  obtain ⟨rfl, rfl⟩ : lad = some ⟨lg, 0, none⟩ ∧ lcap = lcap' := by simpa using hv
  have g0 : X.cell? ⟨lg, i * 2, none⟩ = some (.pointer (some ⟨d.bb, 0, none⟩)) := by
    refine hcell _ _ ?_
    have := flat_get PD.cells 2 (fun _ => rfl) ds i 0 hil (by omega)
    rw [Nat.add_zero] at this
    rw [this, (List.getElem?_eq_some_iff.1 hd).2]; rfl
  have g1 : X.cell? ⟨lg, i * 2 + 1, none⟩ = some (.pointer (some ⟨d.sb, 0, none⟩)) := by
    refine hcell _ _ ?_
    rw [flat_get PD.cells 2 (fun _ => rfl) ds i 1 hil (by omega), (List.getElem?_eq_some_iff.1 hd).2]; rfl
  have HX := hidden hX; have HOB := hidden hob; have HL := hidden h; have HLX := hidden hLX; have HKX := hidden hkX; have HBX := hidden hbX; have HBK := hidden hBX; have HD := hidden hd
  have hli : (i : Int) < (ds.length : Int) := by omega
  have hl0 : (0 : Int) ≤ (i : Int) := by omega
  have hln : (ds.length : Int) ≤ 9000000 := by omega
  have HPK := hidden (fun w' => (law_pick A ds.length w' (by omega) (by omega) hA0 hA1).mono (fun e w2 (he : e = .returned (.int .i64 (pickS A ds.length)) ∧ w2 = w') => (show e = .returned (.int .i64 i) ∧ Below w'.heap.size w' w2 by rw [he.1, he.2, hpi]; exact ⟨rfl, Below.refl _ _⟩)))
  clear h hk hX hob hbX hkX hLX hBX hd hv hcell hpi
  go_enter Tryz.func31, Tryz.ntmps31
  go_upto_region 1 with fail
  rw [← HX.out, ← HOB.out]
  go_upto_region 3 with fail
  have hne := UndA.ne X.heap.size X #[.pointer none, .pointer none] 135 (Nat.le_refl _)
  have k0 : ∀ (S' : Option Nat) (u : UndA X.heap.size X #[.pointer none, .pointer none] 135 S'), u.val.cell? ⟨wb, 0, none⟩ = some (.slice (some ⟨lg, 0, none⟩) ds.length lcap) := fun S' u => u.cell w0 (World.block_lt_of_cell? X _ w0)
  have k1 : ∀ (S' : Option Nat) (u : UndA X.heap.size X #[.pointer none, .pointer none] 135 S'), u.val.cell? ⟨ob, 1, none⟩ = some (.int .i64 A) := fun S' u => u.cell o1 (World.block_lt_of_cell? X _ o1)
  have k2 : ∀ (S' : Option Nat) (u : UndA X.heap.size X #[.pointer none, .pointer none] 135 S'), u.val.cell? ⟨lg, i * 2, none⟩ = some (.pointer (some ⟨d.bb, 0, none⟩)) := fun S' u => u.cell g0 (World.block_lt_of_cell? X _ g0)
  have k3 : ∀ (S' : Option Nat) (u : UndA X.heap.size X #[.pointer none, .pointer none] 135 S'), u.val.cell? ⟨lg, i * 2 + 1, none⟩ = some (.pointer (some ⟨d.sb, 0, none⟩)) := fun S' u => u.cell g1 (World.block_lt_of_cell? X _ g1)
  refine wp_region_new #[.pointer none, .pointer none] 135 14 (by kernel_rfl) (by kernel_rfl) rfl (fun _ => rfl) (fun a w => by simp [go_sem]) ?_
  simp only [List.take_succ_cons, List.take_zero, List.drop_succ_cons, List.drop_zero]
  repeat (refine wpQuietF_step (fun K hK => ?_); go_simp; first | (refine hK _ ?_; clear hK K) | (apply Exists.intro; refine ⟨fun S u => ?_, hK _ ?_⟩; (go_at_call 54; exact UndA.calls (Nat.le_refl _) u (HPK.out _)); clear hK K))
  refine wpQuietF_nil ?_
  intro pb w6 hpb hbel hblk
  have z0 : w6.cell? ⟨pb, 0, none⟩ = some (.pointer none) := hblk.cell 0 _ rfl
  have z1 : w6.cell? ⟨pb, 1, none⟩ = some (.pointer none) := hblk.cell 1 _ rfl
  have y0 := hblk.frozen 0; have y1 := hblk.frozen 1
  have hltpb := hblk.lt
  obtain ⟨V, hV⟩ : ∃ V : World, V = (w6.setCell ⟨pb, 0, none⟩ (.pointer (some ⟨d.bb, 0, none⟩))).setCell ⟨pb, 1, none⟩ (.pointer (some ⟨d.sb, 0, none⟩)) := ⟨_, rfl⟩
  have hkV : Blk V pb #[.pointer (some ⟨d.bb, 0, none⟩), .pointer (some ⟨d.sb, 0, none⟩)] 135 := by
    rw [hV]; have := (hblk.set (o := 0) (.pointer (some ⟨d.bb, 0, none⟩))).set (o := 1) (.pointer (some ⟨d.sb, 0, none⟩)); simpa using this
  have hbV : Below X.heap.size X V := by rw [hV]; exact (hbel.setCell hpb _).setCell hpb _
  have HKV := hidden hkV; have HBV := hidden hbV; have HV := hidden hV
  clear k0 k1 k2 k3 hne hblk hbel hkV hbV o0 o1 o3 w0 g0 g1 hV
  go_simp
  go_upto_region 4 with fail
  rw [← HV.out]
  clear z0 z1 y0 y1
  have hLV := HLX.out.below HBV.out
  have hoV := HKX.out.sub HBV.out HKX.out.lt
  have hdV := hLV.at_ i d HD.out
  have o0 : V.cell? ⟨ob, 0, none⟩ = some (.int .i64 2) := hoV.cell 0 _ rfl
  have o3 : V.cell? ⟨ob, 3, none⟩ = some (.string S) := hoV.cell 3 _ rfl
  have p0 : V.cell? ⟨pb, 0, none⟩ = some (.pointer (some ⟨d.bb, 0, none⟩)) := HKV.out.cell 0 _ rfl
  have HLD := hidden (forth_load S hdV.ps hLV.tab hS hdV.li)
  have HRL := hidden (fun (w' : World) (hr : RefSys w' d.sb d.sv d.ws d.nv d.nt) => ref_load S d.sb d.sv w' hr hdV.al hdV.li hdV.ok hS)
  obtain ⟨R, hR⟩ : ∃ R, R = loadR S d.es d.nv d.nt d.code := ⟨_, rfl⟩
  rw [← hR] at HLD HRL
  obtain ⟨⟨r, q⟩, es', nv', nt', code'⟩ := R
  have HLV := hidden hLV; have HOV := hidden hoV; have HDV := hidden hdV
  clear hLV hoV hdV hR
  go_wp2_with fail
  refine HLD.out.mono ?_
  rintro e w7 ⟨rfl, ⟨ev', cv', hps7, htab7, hle7, hlc7⟩, hli7, hc7⟩
  simp only at hps7 hli7
  have hsub7 : ∀ k, (k = d.bb ∨ d.ev.ownBlock = some k ∨ d.cv.ownBlock = some k) → d.foot k := fun k e => e.elim Or.inl (fun e => e.elim (fun e => Or.inr (Or.inl e)) (fun e => Or.inr (Or.inr (Or.inl e))))
  have hpb7 := HKV.out.chg hc7 (fun e => HDV.out.otherB HKV.out (by decide) (by decide) (by decide) (by decide) (by decide) (hsub7 _ e))
  have hob7 := HOV.out.chg hc7 (fun e => HDV.out.otherB HOV.out (by decide) (by decide) (by decide) (by decide) (by decide) (hsub7 _ e))
  have hrs7 : RefSys w7 d.sb d.sv d.ws d.nv d.nt := HDV.out.rs.chg hc7 (fun e => by
      rcases e with e | e | e
      · exact blk_ne HDV.out.rs.blk HDV.out.ps.blk (by decide) e
      · exact own_blk HDV.out.ps.row HDV.out.rs.blk (by decide) e
      · exact own_blk HDV.out.ps.cod HDV.out.rs.blk (by decide) e) (fun k hk e => by
      rcases e with e | e | e
      · exact own_blk HDV.out.rs.row HDV.out.ps.blk (by decide) (by rw [hk, e])
      · exact own_own HDV.out.rs.row HDV.out.ps.row (by decide) hk e
      · exact own_own HDV.out.rs.row HDV.out.ps.cod (by decide) hk e)
  have o3' : w7.cell? ⟨ob, 3, none⟩ = some (.string S) := hob7.cell 3 _ rfl
  have p1' : w7.cell? ⟨pb, 1, none⟩ = some (.pointer (some ⟨d.sb, 0, none⟩)) := hpb7.cell 1 _ rfl
  have H7 := hidden (And.intro hps7 (And.intro hle7 (And.intro hlc7 (And.intro hli7 (And.intro hc7 hrs7))))); have HS7 := hidden hsub7
  clear hps7 htab7 hle7 hlc7 hli7 hc7 hrs7 hpb7 hob7 hsub7 o0 o3 p0 HLD
  go_wp2_with fail
  refine (HRL.out _ H7.out.2.2.2.2.2).mono ?_
  rintro e w8 ⟨rfl, ⟨sv', ws', hrs8, hal8, hok8, hlc8⟩, hc8⟩
  simp only at hrs8 hal8
  have H8 := hidden (And.intro hrs8 (And.intro hal8 (And.intro hok8 (And.intro hlc8 hc8))))
  clear hrs8 hal8 hok8 hlc8 hc8 HRL o3' p1'
  go_wp2_with fail
  go_ret
  obtain ⟨hps7, hle7, hlc7, hli7, hc7, hrs7⟩ := H7.out
  obtain ⟨hrs8, hal8, hok8, hlc8, hc8⟩ := H8.out
  have hps8 : PSys w8 d.bb ev' cv' es' nv' nt' code' := hps7.chg hc8 (fun e => by
      rcases e with e | e
      · exact blk_ne hps7.blk hrs7.blk (by decide) e
      · exact own_blk hrs7.row hps7.blk (by decide) e) (fun k hk e => by
      rcases e with e | e
      · exact own_blk hps7.row hrs7.blk (by decide) (by rw [hk, e])
      · exact own_own hps7.row hrs7.row (by decide) hk e) (fun k hk e => by
      rcases e with e | e
      · exact own_blk hps7.cod hrs7.blk (by decide) (by rw [hk, e])
      · exact own_own hps7.cod hrs7.row (by decide) hk e)
  have hcV : Chg d.foot V w8 := (hc7.mono (fun k _ e => HS7.out k e)).trans (hc8.mono (fun k _ e => e.elim (fun e => Or.inr (Or.inr (Or.inr (Or.inl e)))) (fun e => Or.inr (Or.inr (Or.inr (Or.inr e))))))
  have hf : ∀ k, (⟨d.bb, ev', cv', es', nv', nt', code', d.sb, sv', ws'⟩ : PD).foot k → d.foot k ∨ V.heap.size ≤ k := fun k hk => by
    rcases hk with e | e | e | e | e
    · exact Or.inl (Or.inl e)
    · exact (hle7 k e).imp (fun e => Or.inr (Or.inl e)) id
    · exact (hlc7 k e).imp (fun e => Or.inr (Or.inr (Or.inl e))) id
    · exact Or.inl (Or.inr (Or.inr (Or.inr (Or.inl e))))
    · exact (hlc8 k e).imp (fun e => Or.inr (Or.inr (Or.inr (Or.inr e)))) (fun e => Nat.le_trans hc7.size e)
  have hVB := HLV.out.le
  have hfin := HLV.out.turn HD.out (d' := ⟨d.bb, ev', cv', es', nv', nt', code', d.sb, sv', ws'⟩) rfl rfl hcV ⟨hps8, hli7, hrs8, hal8, hok8, fun k hk => (hf k hk).elim (fun e => HDV.out.fp k e) (fun e => Nat.le_trans hVB e)⟩ hf
  refine ⟨rfl, _, bk, F, _, gs, hfin, ?_, by simp, by simp, by omega, ?_⟩
  · exact (HBK.out.chg (Chg.ofBelow (S := fun _ => False) HBV.out) (fun _ _ => id)).chg hcV (fun k hk e => HLV.out.sep i d HD.out k e hk)
  · exact ((HBX.out.mono HL.out.le).trans (HBV.out.mono HLX.out.le)).trans (hcV.toBelow hVB (fun k hk e => by have := HDV.out.fp k e; omega))

end Go.Proofs.YtogcdcdhogcogaaGreatDoor

/- The law's steps: Words, Find. -/
namespace Go.Proofs.YtogcdcdhogcogaaGreatDoor
open Go Go.RowKit
set_option linter.unusedVariables false
set_option linter.unusedSimpArgs false
attribute [local go_sem] quietF

set_option maxRecDepth 100000 in
set_option maxHeartbeats 8000000 in
theorem law_step_words {B : Nat} {w : World} {wb : Nat} {lv : Value} {bk : B4} {F : Nat → Prop} {ds : List PD} {gs : List Value} (h : LawAt B w wb lv bk F ds) (hk : BookN B w bk F gs) (hp : 0 < ds.length) (hl : ds.length ≤ 9000000) (hg : gs.length ≤ 9000000)
    (A C : Int) (S : ByteArray) (a1 a2 a3 : Option Addr) (n1 c1 n2 c2 n3 c3 : Nat) (hA0 : -9223372036854775808 ≤ A) (hA1 : A ≤ 9223372036854775807) (hS : S.size ≤ 1100000) :
    Calls Tryz.prog 31 #[.pointer (some ⟨wb, 0, none⟩), .agg #[.int .i64 3, .int .i64 A, .int .i64 C, .string S, .slice a1 n1 c1, .slice a2 n2 c2, .slice a3 n3 c3]] w (LStep B w wb ds gs 0) := by
  obtain ⟨lad, lcap, hlv, hlc, _⟩ := row_shape h.prs
  subst hlv
  obtain ⟨i, hpi, hil⟩ := pick_nat A ds.length hp
  obtain ⟨d, hd⟩ : ∃ d, ds[i]? = some d := ⟨_, List.getElem?_eq_getElem hil⟩
  obtain ⟨X, hX⟩ : ∃ X : World, X = w.alloc (.cells #[.int .i64 3, .int .i64 A, .int .i64 C, .string S, .slice a1 n1 c1, .slice a2 n2 c2, .slice a3 n3 c3] 84 (0, 0)) := ⟨_, rfl⟩
  obtain ⟨ob, hob⟩ : ∃ ob, ob = w.heap.size := ⟨_, rfl⟩
  have hbX : Below w.heap.size w X := by rw [hX]; exact (Below.refl _ _).alloc (Nat.le_refl _) _
  have hkX : Blk X ob #[.int .i64 3, .int .i64 A, .int .i64 C, .string S, .slice a1 n1 c1, .slice a2 n2 c2, .slice a3 n3 c3] 84 := by rw [hX, hob]; exact blk_new w _ _
  have hLX := h.below hbX
  have hBX := hk.chg (Chg.ofBelow (S := fun _ => False) hbX) (fun _ _ => id)
  have o0 : X.cell? ⟨ob, 0, none⟩ = some (.int .i64 3) := hkX.cell 0 _ rfl
  have o1 : X.cell? ⟨ob, 1, none⟩ = some (.int .i64 A) := hkX.cell 1 _ rfl
  have o3 : X.cell? ⟨ob, 3, none⟩ = some (.string S) := hkX.cell 3 _ rfl
  have w0 : X.cell? ⟨wb, 0, none⟩ = some (.slice lad ds.length lcap) := hLX.blk.cell 0 _ rfl
  obtain ⟨lg, lcap', hv, _, hlgx, _, _, hcell⟩ := row_cells hLX.prs hp
  obtain ⟨rfl, rfl⟩ : lad = some ⟨lg, 0, none⟩ ∧ lcap = lcap' := by simpa using hv
  have g0 : X.cell? ⟨lg, i * 2, none⟩ = some (.pointer (some ⟨d.bb, 0, none⟩)) := by
    refine hcell _ _ ?_
    have := flat_get PD.cells 2 (fun _ => rfl) ds i 0 hil (by omega)
    rw [Nat.add_zero] at this
    rw [this, (List.getElem?_eq_some_iff.1 hd).2]; rfl
  have g1 : X.cell? ⟨lg, i * 2 + 1, none⟩ = some (.pointer (some ⟨d.sb, 0, none⟩)) := by
    refine hcell _ _ ?_
    rw [flat_get PD.cells 2 (fun _ => rfl) ds i 1 hil (by omega), (List.getElem?_eq_some_iff.1 hd).2]; rfl
  have HX := hidden hX; have HOB := hidden hob; have HL := hidden h; have HLX := hidden hLX; have HKX := hidden hkX; have HBX := hidden hbX; have HBK := hidden hBX; have HD := hidden hd
  have hli : (i : Int) < (ds.length : Int) := by omega
  have hl0 : (0 : Int) ≤ (i : Int) := by omega
  have hln : (ds.length : Int) ≤ 9000000 := by omega
  have HPK := hidden (fun w' => (law_pick A ds.length w' (by omega) (by omega) hA0 hA1).mono (fun e w2 (he : e = .returned (.int .i64 (pickS A ds.length)) ∧ w2 = w') => (show e = .returned (.int .i64 i) ∧ Below w'.heap.size w' w2 by rw [he.1, he.2, hpi]; exact ⟨rfl, Below.refl _ _⟩)))
  clear h hk hX hob hbX hkX hLX hBX hd hv hcell hpi
  go_enter Tryz.func31, Tryz.ntmps31
  go_upto_region 1 with fail
  rw [← HX.out, ← HOB.out]
  go_upto_region 3 with fail
  have hne := UndA.ne X.heap.size X #[.pointer none, .pointer none] 135 (Nat.le_refl _)
  have k0 : ∀ (S' : Option Nat) (u : UndA X.heap.size X #[.pointer none, .pointer none] 135 S'), u.val.cell? ⟨wb, 0, none⟩ = some (.slice (some ⟨lg, 0, none⟩) ds.length lcap) := fun S' u => u.cell w0 (World.block_lt_of_cell? X _ w0)
  have k1 : ∀ (S' : Option Nat) (u : UndA X.heap.size X #[.pointer none, .pointer none] 135 S'), u.val.cell? ⟨ob, 1, none⟩ = some (.int .i64 A) := fun S' u => u.cell o1 (World.block_lt_of_cell? X _ o1)
  have k2 : ∀ (S' : Option Nat) (u : UndA X.heap.size X #[.pointer none, .pointer none] 135 S'), u.val.cell? ⟨lg, i * 2, none⟩ = some (.pointer (some ⟨d.bb, 0, none⟩)) := fun S' u => u.cell g0 (World.block_lt_of_cell? X _ g0)
  have k3 : ∀ (S' : Option Nat) (u : UndA X.heap.size X #[.pointer none, .pointer none] 135 S'), u.val.cell? ⟨lg, i * 2 + 1, none⟩ = some (.pointer (some ⟨d.sb, 0, none⟩)) := fun S' u => u.cell g1 (World.block_lt_of_cell? X _ g1)
  refine wp_region_new #[.pointer none, .pointer none] 135 14 (by kernel_rfl) (by kernel_rfl) rfl (fun _ => rfl) (fun a w => by simp [go_sem]) ?_
  simp only [List.take_succ_cons, List.take_zero, List.drop_succ_cons, List.drop_zero]
  repeat (refine wpQuietF_step (fun K hK => ?_); go_simp; first | (refine hK _ ?_; clear hK K) | (apply Exists.intro; refine ⟨fun S u => ?_, hK _ ?_⟩; (go_at_call 54; exact UndA.calls (Nat.le_refl _) u (HPK.out _)); clear hK K))
  refine wpQuietF_nil ?_
  intro pb w6 hpb hbel hblk
  have z0 : w6.cell? ⟨pb, 0, none⟩ = some (.pointer none) := hblk.cell 0 _ rfl
  have z1 : w6.cell? ⟨pb, 1, none⟩ = some (.pointer none) := hblk.cell 1 _ rfl
  have y0 := hblk.frozen 0; have y1 := hblk.frozen 1
  have hltpb := hblk.lt
  obtain ⟨V, hV⟩ : ∃ V : World, V = (w6.setCell ⟨pb, 0, none⟩ (.pointer (some ⟨d.bb, 0, none⟩))).setCell ⟨pb, 1, none⟩ (.pointer (some ⟨d.sb, 0, none⟩)) := ⟨_, rfl⟩
  have hkV : Blk V pb #[.pointer (some ⟨d.bb, 0, none⟩), .pointer (some ⟨d.sb, 0, none⟩)] 135 := by
    rw [hV]; have := (hblk.set (o := 0) (.pointer (some ⟨d.bb, 0, none⟩))).set (o := 1) (.pointer (some ⟨d.sb, 0, none⟩)); simpa using this
  have hbV : Below X.heap.size X V := by rw [hV]; exact (hbel.setCell hpb _).setCell hpb _
  have HKV := hidden hkV; have HBV := hidden hbV; have HV := hidden hV
  clear k0 k1 k2 k3 hne hblk hbel hkV hbV o0 o1 o3 w0 g0 g1 hV
  go_simp
  go_upto_region 4 with fail
  rw [← HV.out]
  clear z0 z1 y0 y1
  have hLV := HLX.out.below HBV.out
  have hKV := HBK.out.chg (Chg.ofBelow (S := fun _ => False) HBV.out) (fun _ _ => id)
  have hoV := HKX.out.sub HBV.out HKX.out.lt
  have o0 : V.cell? ⟨ob, 0, none⟩ = some (.int .i64 3) := hoV.cell 0 _ rfl
  have p0 : V.cell? ⟨pb, 0, none⟩ = some (.pointer (some ⟨d.bb, 0, none⟩)) := HKV.out.cell 0 _ rfl
  have p1 : V.cell? ⟨pb, 1, none⟩ = some (.pointer (some ⟨d.sb, 0, none⟩)) := HKV.out.cell 1 _ rfl
  have HWD := hidden (law_words hLV hKV HD.out hg)
  clear hLV hKV hoV
  go_wp2_with fail
  refine HWD.out.mono ?_
  rintro e w8 ⟨rfl, bk', F', gs', hL8, hK8, hn8, hb8⟩
  have H8 := hidden (And.intro hL8 (And.intro hK8 (And.intro hn8 hb8)))
  clear hL8 hK8 hn8 hb8 HWD o0 p0 p1
  go_wp2_with fail
  go_ret
  obtain ⟨hL8, hK8, hn8, hb8⟩ := H8.out
  exact ⟨rfl, _, bk', F', ds, gs', hL8, hK8, by simp, by omega, by omega, ((HBX.out.mono HL.out.le).trans (HBV.out.mono HLX.out.le)).trans hb8⟩

set_option maxRecDepth 100000 in
set_option maxHeartbeats 8000000 in
theorem law_step_find {B : Nat} {w : World} {wb : Nat} {lv : Value} {bk : B4} {F : Nat → Prop} {ds : List PD} {gs : List Value} (h : LawAt B w wb lv bk F ds) (hk : BookN B w bk F gs) (hp : 0 < ds.length) (hl : ds.length ≤ 9000000)
    (A C : Int) (S : ByteArray) (a1 a2 a3 : Option Addr) (n1 c1 n2 c2 n3 c3 : Nat) (hA0 : -9223372036854775808 ≤ A) (hA1 : A ≤ 9223372036854775807) (hS : S.size ≤ 1100000) :
    Calls Tryz.prog 31 #[.pointer (some ⟨wb, 0, none⟩), .agg #[.int .i64 4, .int .i64 A, .int .i64 C, .string S, .slice a1 n1 c1, .slice a2 n2 c2, .slice a3 n3 c3]] w (LStep B w wb ds gs 0) := by
  obtain ⟨lad, lcap, hlv, hlc, _⟩ := row_shape h.prs
  subst hlv
  obtain ⟨i, hpi, hil⟩ := pick_nat A ds.length hp
  obtain ⟨d, hd⟩ : ∃ d, ds[i]? = some d := ⟨_, List.getElem?_eq_getElem hil⟩
  obtain ⟨X, hX⟩ : ∃ X : World, X = w.alloc (.cells #[.int .i64 4, .int .i64 A, .int .i64 C, .string S, .slice a1 n1 c1, .slice a2 n2 c2, .slice a3 n3 c3] 84 (0, 0)) := ⟨_, rfl⟩
  obtain ⟨ob, hob⟩ : ∃ ob, ob = w.heap.size := ⟨_, rfl⟩
  have hbX : Below w.heap.size w X := by rw [hX]; exact (Below.refl _ _).alloc (Nat.le_refl _) _
  have hkX : Blk X ob #[.int .i64 4, .int .i64 A, .int .i64 C, .string S, .slice a1 n1 c1, .slice a2 n2 c2, .slice a3 n3 c3] 84 := by rw [hX, hob]; exact blk_new w _ _
  have hLX := h.below hbX
  have hBX := hk.chg (Chg.ofBelow (S := fun _ => False) hbX) (fun _ _ => id)
  have o0 : X.cell? ⟨ob, 0, none⟩ = some (.int .i64 4) := hkX.cell 0 _ rfl
  have o1 : X.cell? ⟨ob, 1, none⟩ = some (.int .i64 A) := hkX.cell 1 _ rfl
  have o3 : X.cell? ⟨ob, 3, none⟩ = some (.string S) := hkX.cell 3 _ rfl
  have w0 : X.cell? ⟨wb, 0, none⟩ = some (.slice lad ds.length lcap) := hLX.blk.cell 0 _ rfl
  obtain ⟨lg, lcap', hv, _, hlgx, _, _, hcell⟩ := row_cells hLX.prs hp
  obtain ⟨rfl, rfl⟩ : lad = some ⟨lg, 0, none⟩ ∧ lcap = lcap' := by simpa using hv
  have g0 : X.cell? ⟨lg, i * 2, none⟩ = some (.pointer (some ⟨d.bb, 0, none⟩)) := by
    refine hcell _ _ ?_
    have := flat_get PD.cells 2 (fun _ => rfl) ds i 0 hil (by omega)
    rw [Nat.add_zero] at this
    rw [this, (List.getElem?_eq_some_iff.1 hd).2]; rfl
  have g1 : X.cell? ⟨lg, i * 2 + 1, none⟩ = some (.pointer (some ⟨d.sb, 0, none⟩)) := by
    refine hcell _ _ ?_
    rw [flat_get PD.cells 2 (fun _ => rfl) ds i 1 hil (by omega), (List.getElem?_eq_some_iff.1 hd).2]; rfl
  have HX := hidden hX; have HOB := hidden hob; have HL := hidden h; have HLX := hidden hLX; have HKX := hidden hkX; have HBX := hidden hbX; have HBK := hidden hBX; have HD := hidden hd
  have hli : (i : Int) < (ds.length : Int) := by omega
  have hl0 : (0 : Int) ≤ (i : Int) := by omega
  have hln : (ds.length : Int) ≤ 9000000 := by omega
  have HPK := hidden (fun w' => (law_pick A ds.length w' (by omega) (by omega) hA0 hA1).mono (fun e w2 (he : e = .returned (.int .i64 (pickS A ds.length)) ∧ w2 = w') => (show e = .returned (.int .i64 i) ∧ Below w'.heap.size w' w2 by rw [he.1, he.2, hpi]; exact ⟨rfl, Below.refl _ _⟩)))
  clear h hk hX hob hbX hkX hLX hBX hd hv hcell hpi
  go_enter Tryz.func31, Tryz.ntmps31
  go_upto_region 1 with fail
  rw [← HX.out, ← HOB.out]
  go_upto_region 3 with fail
  have hne := UndA.ne X.heap.size X #[.pointer none, .pointer none] 135 (Nat.le_refl _)
  have k0 : ∀ (S' : Option Nat) (u : UndA X.heap.size X #[.pointer none, .pointer none] 135 S'), u.val.cell? ⟨wb, 0, none⟩ = some (.slice (some ⟨lg, 0, none⟩) ds.length lcap) := fun S' u => u.cell w0 (World.block_lt_of_cell? X _ w0)
  have k1 : ∀ (S' : Option Nat) (u : UndA X.heap.size X #[.pointer none, .pointer none] 135 S'), u.val.cell? ⟨ob, 1, none⟩ = some (.int .i64 A) := fun S' u => u.cell o1 (World.block_lt_of_cell? X _ o1)
  have k2 : ∀ (S' : Option Nat) (u : UndA X.heap.size X #[.pointer none, .pointer none] 135 S'), u.val.cell? ⟨lg, i * 2, none⟩ = some (.pointer (some ⟨d.bb, 0, none⟩)) := fun S' u => u.cell g0 (World.block_lt_of_cell? X _ g0)
  have k3 : ∀ (S' : Option Nat) (u : UndA X.heap.size X #[.pointer none, .pointer none] 135 S'), u.val.cell? ⟨lg, i * 2 + 1, none⟩ = some (.pointer (some ⟨d.sb, 0, none⟩)) := fun S' u => u.cell g1 (World.block_lt_of_cell? X _ g1)
  refine wp_region_new #[.pointer none, .pointer none] 135 14 (by kernel_rfl) (by kernel_rfl) rfl (fun _ => rfl) (fun a w => by simp [go_sem]) ?_
  simp only [List.take_succ_cons, List.take_zero, List.drop_succ_cons, List.drop_zero]
  repeat (refine wpQuietF_step (fun K hK => ?_); go_simp; first | (refine hK _ ?_; clear hK K) | (apply Exists.intro; refine ⟨fun S u => ?_, hK _ ?_⟩; (go_at_call 54; exact UndA.calls (Nat.le_refl _) u (HPK.out _)); clear hK K))
  refine wpQuietF_nil ?_
  intro pb w6 hpb hbel hblk
  have z0 : w6.cell? ⟨pb, 0, none⟩ = some (.pointer none) := hblk.cell 0 _ rfl
  have z1 : w6.cell? ⟨pb, 1, none⟩ = some (.pointer none) := hblk.cell 1 _ rfl
  have y0 := hblk.frozen 0; have y1 := hblk.frozen 1
  have hltpb := hblk.lt
  obtain ⟨V, hV⟩ : ∃ V : World, V = (w6.setCell ⟨pb, 0, none⟩ (.pointer (some ⟨d.bb, 0, none⟩))).setCell ⟨pb, 1, none⟩ (.pointer (some ⟨d.sb, 0, none⟩)) := ⟨_, rfl⟩
  have hkV : Blk V pb #[.pointer (some ⟨d.bb, 0, none⟩), .pointer (some ⟨d.sb, 0, none⟩)] 135 := by
    rw [hV]; have := (hblk.set (o := 0) (.pointer (some ⟨d.bb, 0, none⟩))).set (o := 1) (.pointer (some ⟨d.sb, 0, none⟩)); simpa using this
  have hbV : Below X.heap.size X V := by rw [hV]; exact (hbel.setCell hpb _).setCell hpb _
  have HKV := hidden hkV; have HBV := hidden hbV; have HV := hidden hV
  clear k0 k1 k2 k3 hne hblk hbel hkV hbV o0 o1 o3 w0 g0 g1 hV
  go_simp
  go_upto_region 4 with fail
  rw [← HV.out]
  clear z0 z1 y0 y1
  have hLV := HLX.out.below HBV.out
  have hoV := HKX.out.sub HBV.out HKX.out.lt
  have hdV := hLV.at_ i d HD.out
  have o0 : V.cell? ⟨ob, 0, none⟩ = some (.int .i64 4) := hoV.cell 0 _ rfl
  have o3 : V.cell? ⟨ob, 3, none⟩ = some (.string S) := hoV.cell 3 _ rfl
  have p0 : V.cell? ⟨pb, 0, none⟩ = some (.pointer (some ⟨d.bb, 0, none⟩)) := HKV.out.cell 0 _ rfl
  have hff := forth_find S hdV.ps (by have := hdV.li.l; omega)
  rw [find_eq hdV.al S] at hff
  have HRF := hidden (fun (w' : World) (hr : RefSys w' d.sb d.sv d.ws d.nv d.nt) => ref_Find S w' hr (few_ws hdV.li hdV.al))
  obtain ⟨⟨⟨b1, b2, b3, b4, b5⟩, f⟩, hR⟩ : ∃ R, R = findI d.ws S := ⟨_, rfl⟩
  rw [← hR] at hff HRF
  simp only [Inf.val] at hff HRF
  have HFF := hidden hff
  have HLV := hidden hLV; have HOV := hidden hoV; have HDV := hidden hdV
  clear hLV hoV hdV hR hff
  go_wp2_with fail
  refine HFF.out.mono ?_
  rintro e w7 ⟨rfl, hb7⟩
  obtain ⟨x7, hx7⟩ : ∃ x, x = w7.heap.size := ⟨_, rfl⟩
  obtain ⟨Y, hY⟩ : ∃ Y : World, Y = w7.alloc (.cells #[.int .i64 b1, .int .i64 b2, .int .i64 b3, .int .i64 b4, .bool b5] 36 (0, 0)) := ⟨_, rfl⟩
  have hbY : Below V.heap.size V Y := by rw [hY]; exact hb7.alloc hb7.size _
  have hkY : Blk Y x7 #[.int .i64 b1, .int .i64 b2, .int .i64 b3, .int .i64 b4, .bool b5] 36 := by rw [hY, hx7]; exact blk_new w7 _ _
  have hoY := HOV.out.sub hbY HOV.out.lt
  have hpY := HKV.out.sub hbY HKV.out.lt
  have hdY := (HLV.out.below hbY).at_ i d HD.out
  have o3' : Y.cell? ⟨ob, 3, none⟩ = some (.string S) := hoY.cell 3 _ rfl
  have p1' : Y.cell? ⟨pb, 1, none⟩ = some (.pointer (some ⟨d.sb, 0, none⟩)) := hpY.cell 1 _ rfl
  have HRY := hidden (HRF.out Y hdY.rs); have HKY := hidden hkY; have HBY := hidden hbY; have HYY := hidden hY; have HX7 := hidden hx7
  clear HFF HRF hb7 hbY hkY hoY hpY hdY o0 o3 p0 hY hx7
  go_upto_region 13 with fail
  rw [← HYY.out, ← HX7.out]
  go_wp2_with fail
  refine HRY.out.mono ?_
  rintro e w8 ⟨rfl, hb8⟩
  obtain ⟨x8, hx8⟩ : ∃ x, x = w8.heap.size := ⟨_, rfl⟩
  obtain ⟨Z, hZ⟩ : ∃ Z : World, Z = w8.alloc (.cells #[.int .i64 b1, .int .i64 b2, .int .i64 b3, .int .i64 b4, .bool b5] 36 (0, 0)) := ⟨_, rfl⟩
  have hbZ : Below Y.heap.size Y Z := by rw [hZ]; exact hb8.alloc hb8.size _
  have hkZ : Blk Z x8 #[.int .i64 b1, .int .i64 b2, .int .i64 b3, .int .i64 b4, .bool b5] 36 := by rw [hZ, hx8]; exact blk_new w8 _ _
  have hkYZ := HKY.out.sub hbZ HKY.out.lt
  have s0 : Z.cell? ⟨x7, 0, none⟩ = some (.int .i64 b1) := hkYZ.cell 0 _ rfl
  have s1 : Z.cell? ⟨x7, 1, none⟩ = some (.int .i64 b2) := hkYZ.cell 1 _ rfl
  have s2 : Z.cell? ⟨x7, 2, none⟩ = some (.int .i64 b3) := hkYZ.cell 2 _ rfl
  have s3 : Z.cell? ⟨x7, 3, none⟩ = some (.int .i64 b4) := hkYZ.cell 3 _ rfl
  have s4 : Z.cell? ⟨x7, 4, none⟩ = some (.bool b5) := hkYZ.cell 4 _ rfl
  have t0 : Z.cell? ⟨x8, 0, none⟩ = some (.int .i64 b1) := hkZ.cell 0 _ rfl
  have t1 : Z.cell? ⟨x8, 1, none⟩ = some (.int .i64 b2) := hkZ.cell 1 _ rfl
  have t2 : Z.cell? ⟨x8, 2, none⟩ = some (.int .i64 b3) := hkZ.cell 2 _ rfl
  have t3 : Z.cell? ⟨x8, 3, none⟩ = some (.int .i64 b4) := hkZ.cell 3 _ rfl
  have t4 : Z.cell? ⟨x8, 4, none⟩ = some (.bool b5) := hkZ.cell 4 _ rfl
  have HBZ := hidden (HBY.out.trans (hbZ.mono HBY.out.size)); have HZZ := hidden hZ; have HX8 := hidden hx8
  clear hb8 hbZ hkZ hkYZ hZ hx8 HRY o3' p1'
  go_upto_region 14 with fail
  rw [← HZZ.out, ← HX8.out]
  go_wp2_with fail
  go_ret
  exact ⟨rfl, _, bk, F, ds, gs, HLV.out.below HBZ.out, (HBK.out.chg (Chg.ofBelow (S := fun _ => False) HBV.out) (fun _ _ => id)).chg (Chg.ofBelow (S := fun _ => False) HBZ.out) (fun _ _ => id), by simp, by omega, by omega, ((HBX.out.mono HL.out.le).trans (HBV.out.mono HLX.out.le)).trans (HBZ.out.mono HLV.out.le)⟩

end Go.Proofs.YtogcdcdhogcogaaGreatDoor
