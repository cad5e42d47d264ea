/- The law's world: pairs of systems; New. -/
import Derived.Test.YtcphhbofjkenaaaGreatDoorM36
import Derived.Test.YtcphhbofjkenaaaGreatDoorM42

namespace Go.Proofs.YtcphhbofjkenaaaGreatDoor
open Go Go.RowKit
set_option linter.unusedVariables false
set_option linter.unusedSimpArgs false

/-- A system of the program, and the document's. -/
structure PD where
  bb : Nat
  ev : Value
  cv : Value
  es : List PE
  nv : Int
  nt : Int
  code : List Int
  sb : Nat
  sv : Value
  ws : List RW

/-- The blocks that they lie in. -/
def PD.foot (d : PD) (k : Nat) : Prop := k = d.bb ∨ d.ev.ownBlock = some k ∨ d.cv.ownBlock = some k ∨ k = d.sb ∨ d.sv.ownBlock = some k

structure PairAt (B : Nat) (w : World) (d : PD) : Prop where
  ps : PSys w d.bb d.ev d.cv d.es d.nv d.nt d.code
  li : LInv d.es d.nv d.nt d.code
  rs : RefSys w d.sb d.sv d.ws d.nv d.nt
  al : Alike d.es d.ws
  ok : WsOk d.ws
  fp : ∀ k, d.foot k → B ≤ k

theorem PairAt.lt {B : Nat} {w : World} {d : PD} (h : PairAt B w d) {k : Nat} (hk : d.foot k) : k < w.heap.size := by
  rcases hk with e | e | e | e | e
  · rw [e]; exact h.ps.blk.lt
  · exact own_lt h.ps.row e
  · exact own_lt h.ps.cod e
  · rw [e]; exact h.rs.blk.lt
  · exact own_lt h.rs.row e
theorem PairAt.chg {B : Nat} {S : Nat → Prop} {w w' : World} {d : PD} (h : PairAt B w d) (hc : Chg S w w') (hs : ∀ k, d.foot k → ¬ S k) : PairAt B w' d :=
  ⟨h.ps.chg hc (hs _ (Or.inl rfl)) (fun k hk => hs k (Or.inr (Or.inl hk))) (fun k hk => hs k (Or.inr (Or.inr (Or.inl hk)))), h.li,
    h.rs.chg hc (hs _ (Or.inr (Or.inr (Or.inr (Or.inl rfl))))) (fun k hk => hs k (Or.inr (Or.inr (Or.inr (Or.inr hk))))), h.al, h.ok, h.fp⟩

/-- No block of a pair is one of another type. -/
theorem PairAt.other {B : Nat} {w : World} {d : PD} (h : PairAt B w d) {base : Nat} {e : TypeId} {size n : Nat} {v : Value} {xs : List Value} (hr : w.ownsRow base e size v n xs)
    (h1 : 122 ≠ e) (h2 : 153 ≠ e) (h3 : 3 ≠ e) (h4 : 176 ≠ e) (h5 : 186 ≠ e) {k : Nat} (hk : v.ownBlock = some k) : ¬ d.foot k := by
  rintro (e' | e' | e' | e' | e')
  · subst e'; exact own_blk hr h.ps.blk h1 hk
  · exact own_own h.ps.row hr h2 e' hk
  · exact own_own h.ps.cod hr h3 e' hk
  · subst e'; exact own_blk hr h.rs.blk h4 hk
  · exact own_own h.rs.row hr h5 e' hk
theorem PairAt.otherB {B : Nat} {w : World} {d : PD} (h : PairAt B w d) {b : Nat} {cs : Array Value} {e : TypeId} (hb : Blk w b cs e)
    (h1 : 122 ≠ e) (h2 : 153 ≠ e) (h3 : 3 ≠ e) (h4 : 176 ≠ e) (h5 : 186 ≠ e) : ¬ d.foot b := by
  rintro (e' | e' | e' | e' | e')
  · subst e'; exact h1 (blk_type h.ps.blk hb)
  · exact own_blk h.ps.row hb h2.symm e'
  · exact own_blk h.ps.cod hb h3.symm e'
  · subst e'; exact h4 (blk_type h.rs.blk hb)
  · exact own_blk h.rs.row hb h5.symm e'

/-- Its cells in the law's row. -/
def PD.cells (d : PD) : List Value := [.pointer (some ⟨d.bb, 0, none⟩), .pointer (some ⟨d.sb, 0, none⟩)]
def PD.fresh (bb sb : Nat) : PD := ⟨bb, .slice none 0 0, .slice none 0 0, [], 0, 0, [], sb, .slice none 0 0, []⟩

/-- All that a script has made. -/
structure LawAt (B : Nat) (w : World) (wb : Nat) (lv : Value) (bk : B4) (G : G4) (ds : List PD) : Prop where
  blk : Blk w wb (lwB lv bk) 84
  prs : w.ownsRow B 143 2 lv ds.length (ds.flatMap PD.cells)
  at_ : ∀ (i : Nat) (d : PD), ds[i]? = some d → PairAt B w d
  dis : ∀ (i j : Nat) (d d' : PD), ds[i]? = some d → ds[j]? = some d' → i ≠ j → ∀ k, d.foot k → ¬ d'.foot k
  sep : ∀ (i : Nat) (d : PD), ds[i]? = some d → ∀ k, d.foot k → ¬ bookF bk G k
  bok : BookA B w bk G
  tab : Tab w
  bas : 3 ≤ B ∧ B ≤ wb

section
variable {B : Nat} {w w' : World} {wb : Nat} {lv : Value} {bk : B4} {G : G4} {ds : List PD}

theorem LawAt.le (h : LawAt B w wb lv bk G ds) : B ≤ w.heap.size := by
  have := h.blk.lt; have := h.bas.2; omega
theorem BookA.notBlk {b : Nat} {cs : Array Value} {t : TypeId} (h : BookA B w bk G) (hb : Blk w b cs t) (ht : ∀ j, j < 4 → t ≠ bLt j ∧ t ≠ bEt j) : ¬ bookF bk G b := by
  rintro ⟨j, hj, e | ⟨i, u, hu, e⟩⟩
  · exact own_blk (h.row j hj) hb (ht j hj).1 e
  · obtain ⟨k, _, hr⟩ := h.mrk j hj i u hu
    exact own_blk hr hb (ht j hj).2 e
theorem BookA.notOwn {b base size n : Nat} {v : Value} {xs : List Value} {t : TypeId} (h : BookA B w bk G) (hb : w.ownsRow base t size v n xs) (ht : ∀ j, j < 4 → t ≠ bLt j ∧ t ≠ bEt j) (hv : v.ownBlock = some b) : ¬ bookF bk G b := by
  rintro ⟨j, hj, e | ⟨i, u, hu, e⟩⟩
  · exact own_own hb (h.row j hj) (ht j hj).1 hv e
  · obtain ⟨k, _, hr⟩ := h.mrk j hj i u hu
    exact own_own hb hr (ht j hj).2 hv e
theorem LawAt.nof (h : LawAt B w wb lv bk G ds) : ¬ bookF bk G wb ∧ ∀ k, lv.ownBlock = some k → ¬ bookF bk G k :=
  ⟨h.bok.notBlk h.blk (fun j hj => ⟨Ne.symm (lt_ty j hj).1, Ne.symm (lt_ty j hj).2.1⟩), fun k hk => h.bok.notOwn h.prs (fun j hj => ⟨Ne.symm (lt_ty j hj).2.2.1, Ne.symm (lt_ty j hj).2.2.2⟩) hk⟩

/-- What has turned lies apart from all of it. -/
theorem LawAt.chg {S : Nat → Prop} (h : LawAt B w wb lv bk G ds) (hc : Chg S w w') (h1 : ¬ S wb) (h2 : ∀ k, lv.ownBlock = some k → ¬ S k)
    (h3 : ∀ (i : Nat) (d : PD), ds[i]? = some d → ∀ k, d.foot k → ¬ S k) (h4 : ∀ k, S k → 3 ≤ k) (h5 : ∀ k, bookF bk G k → ¬ S k) : LawAt B w' wb lv bk G ds :=
  ⟨h.blk.chg hc h1, ownsRow_chg h.prs hc h2, fun i d hd => (h.at_ i d hd).chg hc (h3 i d hd), h.dis, h.sep, h.bok.chg hc h5, h.tab.chg hc h4, h.bas⟩
theorem LawAt.below (h : LawAt B w wb lv bk G ds) (hb : Below w.heap.size w w') : LawAt B w' wb lv bk G ds :=
  h.chg (Chg.ofBelow (S := fun _ => False) hb) id (fun _ _ => id) (fun _ _ _ _ _ => id) (fun _ e => e.elim) (fun _ _ => id)

/-- One pair has turned, within what it lay in and what is new. -/
theorem LawAt.turn (h : LawAt B w wb lv bk G ds) {i : Nat} {d d' : PD} (hi : ds[i]? = some d) (hb : d'.bb = d.bb) (hsb : d'.sb = d.sb)
    (hc : Chg d.foot w w') (hp : PairAt B w' d') (hf : ∀ k, d'.foot k → d.foot k ∨ w.heap.size ≤ k) : LawAt B w' wb lv bk G (ds.set i d') := by
  have hil : i < ds.length := (List.getElem?_eq_some_iff.1 hi).1
  have hd := h.at_ i d hi
  have other : ∀ (j : Nat) (x : PD), (ds.set i d')[j]? = some x → (j = i ∧ x = d') ∨ (j ≠ i ∧ ds[j]? = some x) := fun j x hx => by
    by_cases e : j = i
    · subst e; rw [List.getElem?_set_self hil] at hx; exact Or.inl ⟨rfl, (Option.some.inj hx).symm⟩
    · rw [List.getElem?_set_ne (Ne.symm e)] at hx; exact Or.inr ⟨e, hx⟩
  have hwb : ¬ d.foot wb := hd.otherB h.blk (by decide) (by decide) (by decide) (by decide) (by decide)
  have hlv : ∀ k, lv.ownBlock = some k → ¬ d.foot k := fun k hk => hd.other h.prs (by decide) (by decide) (by decide) (by decide) (by decide) hk
  have hcells : (ds.set i d').flatMap PD.cells = ds.flatMap PD.cells := by
    rw [List.flatMap_def, List.flatMap_def, List.map_set]
    have e : d'.cells = d.cells := by unfold PD.cells; rw [hb, hsb]
    rw [e]
    congr 1
    apply List.ext_getElem?
    intro j
    by_cases hj : j = i
    · subst hj; rw [List.getElem?_set_self (by simpa using hil), List.getElem?_map, hi]; rfl
    · rw [List.getElem?_set_ne (Ne.symm hj)]
  refine ⟨h.blk.chg hc hwb, ?_, ?_, ?_, ?_, h.bok.chg hc (fun k hk e => h.sep i d hi k e hk), ?_, h.bas⟩
  · rw [hcells, List.length_set]; exact ownsRow_chg h.prs hc hlv
  · intro j x hx
    rcases other j x hx with ⟨_, rfl⟩ | ⟨hne, hx⟩
    · exact hp
    · exact (h.at_ j x hx).chg hc (h.dis j i x d hx hi hne)
  · intro j l x y hx hy hne k h1 h2
    rcases other j x hx with ⟨e1, rfl⟩ | ⟨e1, hx'⟩ <;> rcases other l y hy with ⟨e2, e3⟩ | ⟨e2, hy'⟩
    · omega
    · rcases hf k h1 with h3 | h3
      · exact h.dis i l d y hi hy' (Ne.symm e2) k h3 h2
      · have := (h.at_ l y hy').lt h2; omega
    · subst e3
      rcases hf k h2 with h3 | h3
      · exact h.dis i j d x hi hx' (Ne.symm e1) k h3 h1
      · have := (h.at_ j x hx').lt h1; omega
    · exact h.dis j l x y hx' hy' hne k h1 h2
  · intro j x hx k hk hF
    rcases other j x hx with ⟨_, rfl⟩ | ⟨hne, hx⟩
    · rcases hf k hk with h3 | h3
      · exact h.sep i d hi k h3 hF
      · have := h.bok.lt hF; omega
    · exact h.sep j x hx k hk hF
  · exact h.tab.chg hc (fun k hk => Nat.le_trans h.bas.1 (hd.fp k hk))

theorem LawAt.push {w2 : World} {v2 : Value} {d : PD} (h : LawAt B w wb lv bk G ds) (hd : PairAt B w d)
    (h1 : ∀ (i : Nat) (x : PD), ds[i]? = some x → ∀ k, x.foot k → ¬ d.foot k) (h2 : ∀ k, d.foot k → ¬ bookF bk G k)
    (hr : w2.ownsRow B 143 2 v2 (ds.length + 1) (ds.flatMap PD.cells ++ d.cells)) (hc : Chg (fun b => lv.ownBlock = some b) w w2) (hv : ∀ k, v2.ownBlock = some k → lv.ownBlock = some k ∨ w.heap.size ≤ k) :
    LawAt B (w2.setCell ⟨wb, 0, none⟩ v2) wb v2 bk G (ds ++ [d]) := by
  have nl : ∀ (x : PD), PairAt B w x → ∀ k, x.foot k → ¬ lv.ownBlock = some k := fun x hx k hk e => hx.other h.prs (by decide) (by decide) (by decide) (by decide) (by decide) e hk
  have nw : ∀ (x : PD), PairAt B w x → ¬ x.foot wb := fun x hx => hx.otherB h.blk (by decide) (by decide) (by decide) (by decide) (by decide)
  have hb2 : Blk w2 wb (lwB lv bk) 84 := h.blk.chg hc (own_blk h.prs h.blk (by decide))
  have hv2 : v2.ownBlock ≠ some wb := own_blk hr hb2 (by decide)
  have hset : Chg (fun b => b = wb) w2 (w2.setCell ⟨wb, 0, none⟩ v2) := (Chg.refl (fun b => b = wb) w2).setCell (p := ⟨wb, 0, none⟩) rfl _
  have pair : ∀ (x : PD), PairAt B w x → PairAt B (w2.setCell ⟨wb, 0, none⟩ v2) x := fun x hx => (hx.chg hc (nl x hx)).chg hset (fun k hk e => nw x hx (by rw [← e]; exact hk))
  have last : ∀ (j : Nat) (x : PD), (ds ++ [d])[j]? = some x → (j < ds.length ∧ ds[j]? = some x) ∨ (j = ds.length ∧ x = d) := fun j x hx => by
    by_cases hj : j < ds.length
    · rw [List.getElem?_append_left hj] at hx; exact Or.inl ⟨hj, hx⟩
    · rw [List.getElem?_append_right (by omega)] at hx
      by_cases e : j - ds.length = 0
      · rw [e] at hx; simp at hx; exact Or.inr ⟨by omega, hx.symm⟩
      · rw [List.getElem?_eq_none (by simp; omega)] at hx; cases hx
  refine ⟨?_, ?_, ?_, ?_, ?_, (h.bok.chg hc (fun k hk e => h.nof.2 k e hk)).chg hset (fun k hk e => h.nof.1 (by rw [← e]; exact hk)), ?_, h.bas⟩
  · have := hb2.set (o := 0) v2
    simpa [lwB, lwC] using this
  · rw [List.length_append, List.length_singleton, List.flatMap_append]
    have := ownsRow_chg hr hset (fun k hk e => hv2 (by rw [hk, e]))
    simpa using this
  · intro j x hx
    rcases last j x hx with ⟨_, hx⟩ | ⟨_, rfl⟩
    · exact pair x (h.at_ j x hx)
    · exact pair _ hd
  · intro i j x y hx hy hne k a1 a2
    rcases last i x hx with ⟨_, hx'⟩ | ⟨e1, e4⟩ <;> rcases last j y hy with ⟨_, hy'⟩ | ⟨e2, e3⟩
    · exact h.dis i j x y hx' hy' hne k a1 a2
    · rw [e3] at a2; exact h1 i x hx' k a1 a2
    · rw [e4] at a1; exact h1 j y hy' k a2 a1
    · omega
  · intro j x hx k hk
    rcases last j x hx with ⟨_, hx⟩ | ⟨_, rfl⟩
    · exact h.sep j x hx k hk
    · exact h2 k hk
  · refine (h.tab.chg hc (fun k hk => Nat.le_trans h.bas.1 (own_base h.prs hk))).chg hset (fun k e => ?_)
    rw [e]; exact Nat.le_trans h.bas.1 h.bas.2

/-- A list that came out, which lies apart from all of it, is written into, and kept. -/
theorem LawAt.keeps {j : Nat} {u0 : Value} {e : Ending} (h : LawAt B w wb lv bk G ds) (hj : j < 4)
    (hu : ∀ b, u0.ownBlock = some b → B ≤ b ∧ b < w.heap.size ∧ b ≠ wb ∧ lv.ownBlock ≠ some b ∧ ¬ bookF bk G b ∧ ∀ (i : Nat) (d : PD), ds[i]? = some d → ¬ d.foot b) (hp : KeepPost j B w wb lv bk (G.get j) u0 e w') :
    ∃ bk' G', LawAt B w' wb lv bk' G' ds ∧ G' = G.set j (G'.get j) ∧ (G'.get j).length = (G.get j).length + 4 ∧ (∀ b, bookF bk' G' b → bookF bk G b ∨ u0.ownBlock = some b ∨ w.heap.size ≤ b) ∧ Chg (fun b => b = wb ∨ u0.ownBlock = some b ∨ bookF bk G b) w w' := by
  obtain ⟨bk', G', _, hk, hb, hG, hl, hF⟩ := h.bok.keeps hj h.blk (fun b hb => ⟨(hu b hb).2.2.2.2.1, (hu b hb).2.1⟩) hp
  obtain ⟨_, nv', u1, u2, u3, _, _, _, _, _, _, _, _, hc⟩ := hp
  have hc' : Chg (fun b => b = wb ∨ u0.ownBlock = some b ∨ bookF bk G b) w w' := hc.mono (fun b _ e => e.imp id (fun e => e.imp id (fun e => ⟨j, hj, Or.inl e⟩)))
  have hwB := h.bas.2
  have hfeet : ∀ (i : Nat) (d : PD), ds[i]? = some d → ∀ k, d.foot k → ¬ (k = wb ∨ u0.ownBlock = some k ∨ bookF bk G k) := fun i d hd k hk e => by
    rcases e with e | e | e
    · subst e; exact (h.at_ i d hd).otherB h.blk (by decide) (by decide) (by decide) (by decide) (by decide) hk
    · exact (hu k e).2.2.2.2.2 i d hd hk
    · exact h.sep i d hd k hk e
  refine ⟨bk', G', ⟨hb, ownsRow_chg h.prs hc' ?_, fun i d hd => (h.at_ i d hd).chg hc' (hfeet i d hd), h.dis, ?_, hk, h.tab.chg hc' ?_, h.bas⟩, hG, hl, hF, hc'⟩
  · rintro k hk (e | e | e)
    · subst e; exact own_blk h.prs h.blk (by decide) hk
    · exact (hu k e).2.2.2.1 hk
    · exact h.nof.2 k hk e
  · intro i d hd k hk hf
    rcases hF k hf with e | e | e
    · exact h.sep i d hd k hk e
    · exact (hu k e).2.2.2.2.2 i d hd hk
    · have := (h.at_ i d hd).lt hk; omega
  · rintro k (e | e | e)
    · rw [e]; exact Nat.le_trans h.bas.1 hwB
    · exact Nat.le_trans h.bas.1 (hu k e).1
    · exact Nat.le_trans h.bas.1 (h.bok.base e)
end

def prz : Value := .agg #[.pointer none, .pointer none]
theorem Tryz.infoPr : (Tryz.prog.info? 143).map (fun i => (i.zero, i.size, i.bytes)) = some (some prz, 2, 16) := by kernel_rfl

set_option maxRecDepth 100000 in
set_option maxHeartbeats 8000000 in
theorem law_made {B : Nat} {w : World} {wb : Nat} {lv : Value} {bk : B4} {G : G4} {ds : List PD} (h : LawAt B w wb lv bk G ds) (hl : ds.length ≤ 10000000) :
    Calls Tryz.prog 62 #[.pointer (some ⟨wb, 0, none⟩)] w fun e w' => e = .returned (.bool true) ∧ ∃ lv' d, LawAt B w' wb lv' bk G (ds ++ [d]) ∧ Chg (fun b => b = wb ∨ lv.ownBlock = some b) w w' := by
  obtain ⟨lad, lcap, hlv, _, _⟩ := row_shape h.prs
  subst hlv
  have HNW := hidden (forth_new w h.tab)
  have HL := hidden h
  have hB := h.le
  have hwlt := h.blk.lt
  clear h
  go_enter Tryz.func62, Tryz.ntmps62
  go_wp2_with fail
  refine HNW.out.mono ?_
  rintro e w1 ⟨bb, hbb, rfl, hps, hbel⟩
  have hL1 := HL.out.below hbel
  have c0 : w1.cell? ⟨wb, 0, none⟩ = some (.slice lad ds.length lcap) := hL1.blk.cell 0 _ rfl
  have HPS := hidden hps; have HL1 := hidden hL1; have HBE := hidden hbel
  have hs1 := hbel.size
  obtain ⟨i0, hi, hz0, hz1, hz2⟩ := info_parts Tryz.infoPr
  have HI := hidden (And.intro hi (And.intro hz0 (And.intro hz1 hz2)))
  clear HNW hps hL1 hbel hi hz0 hz1 hz2
  obtain ⟨sb, hsb⟩ : ∃ sb, sb = w1.heap.size := ⟨_, rfl⟩
  obtain ⟨X, hX⟩ : ∃ X : World, X = w1.alloc (.cells #[.slice none 0 0, .int .i64 0, .int .i64 0] 176 (0, 0)) := ⟨_, rfl⟩
  have hbX : Below w1.heap.size w1 X := by rw [hX]; exact (Below.refl _ _).alloc (Nat.le_refl _) _
  have hXs : X.heap.size = sb + 1 := by rw [hX, hsb]; simp
  have hkX : Blk X sb #[.slice none 0 0, .int .i64 0, .int .i64 0] 176 := by rw [hX, hsb]; exact blk_new w1 _ _
  obtain ⟨Y, hY⟩ : ∃ Y : World, Y = X.alloc (.cells #[.pointer (some ⟨bb, 0, none⟩), .pointer (some ⟨sb, 0, none⟩)] 143 (0, 0)) := ⟨_, rfl⟩
  have hbY : Below X.heap.size X Y := by rw [hY]; exact (Below.refl _ _).alloc (Nat.le_refl _) _
  have hYs : Y.heap.size = sb + 1 + 1 := by rw [hY]; simp [hXs]
  have hLY : LawAt B Y wb (.slice lad ds.length lcap) bk G ds := (HL1.out.below hbX).below hbY
  have hpY : PSys Y bb (.slice none 0 0) (.slice none 0 0) [] 0 0 [] := (HPS.out.below hbX).below hbY
  have hrY : RefSys Y sb (.slice none 0 0) [] 0 0 := ⟨hkX.sub hbY (by omega), ⟨rfl, Or.inl ⟨rfl, rfl⟩⟩, by simp [Value.ownBlock]⟩
  have hft : ∀ k, (PD.fresh bb sb).foot k → k = bb ∨ k = sb := fun k hk => by
    rcases hk with e | e | e | e | e
    · exact Or.inl e
    · cases e
    · cases e
    · exact Or.inr e
    · cases e
  have hdY : PairAt B Y (PD.fresh bb sb) := ⟨hpY, LInv.zero, hrY, Alike.nil, (fun x hx => by cases hx), (fun k hk => by rcases hft k hk with e | e <;> omega)⟩
  have hnew : ∀ k, (PD.fresh bb sb).foot k → w.heap.size ≤ k := fun k hk => by rcases hft k hk with e | e <;> omega
  have hn1 : ∀ (i : Nat) (x : PD), ds[i]? = some x → ∀ k, x.foot k → ¬ (PD.fresh bb sb).foot k := fun i x hx k hk e => by
    have := (HL.out.at_ i x hx).lt hk; have := hnew k e; omega
  have hn2 : ∀ k, (PD.fresh bb sb).foot k → ¬ bookF bk G k := fun k hk e => by have := HL.out.bok.lt e; have := hnew k hk; omega
  have hcY : Chg (fun b => b = wb ∨ (Value.slice lad ds.length lcap).ownBlock = some b) w Y := ((Chg.ofBelow HBE.out).trans (Chg.ofBelow hbX)).trans (Chg.ofBelow hbY)
  have HLY := hidden hLY; have HDY := hidden hdY; have HN1 := hidden hn1; have HN2 := hidden hn2; have HCY := hidden hcY
  have HNE := hidden (show ∀ j u, ([.pointer (some ⟨bb, 0, none⟩), .pointer (some ⟨sb, 0, none⟩)] : List Value)[j]? = some u → Y.cell? ((Addr.mk (sb + 1) 0 none).add j) = some u by rw [hY, ← hXs]; exact World.news_of_block (fr := (0, 0)) (heap_alloc_new X _))
  have HON := hidden (show ∀ u ∈ ([.pointer (some ⟨bb, 0, none⟩), .pointer (some ⟨sb, 0, none⟩)] : List Value), u.oneCell' = true by intro u hu; simp at hu; rcases hu with rfl | rfl <;> rfl)
  have HQ := hidden (And.intro (show ds.length + 1 ≤ maxLen by unfold maxLen; omega) (show (ds.length + 1) * 16 ≤ 140737488355328 by omega))
  have HBY := hidden (show B ≤ Y.heap.size by omega)
  have HYS := hidden hYs
  clear hbX hXs hkX hbY hYs hLY hpY hrY hft hdY hnew hn1 hn2 hcY
  subst hY
  subst hX
  subst hsb
  go_wp2_with (at_builtin; refine wpList_append_lies _ rfl _ _ 76 rfl B 143 i0 prz 2 16 Tryz.underlying76 HI.out.1 HI.out.2.1 HI.out.2.2.1 HI.out.2.2.2 rfl (by decide) (.slice lad ds.length lcap) ds.length (ds.flatMap PD.cells) rfl HLY.out.prs (Addr.mk (w1.heap.size + 1) 0 none) 1 1 [.pointer (some ⟨bb, 0, none⟩), .pointer (some ⟨w1.heap.size, 0, none⟩)] rfl rfl HNE.out HON.out (by decide) HQ.out.1 HQ.out.2 HBY.out (w1.heap.size + 1 + 1) HYS.out ?_)
  intro g2 cap2 w2 hr2 hg2 hat2 hlt2
  have hcg : Chg (fun b => (Value.slice lad ds.length lcap).ownBlock = some b) _ w2 := (Chg.ofGrown hg2).mono (fun k _ e => e.symm)
  have hfin := HLY.out.push HDY.out HN1.out HN2.out hr2 hcg (fun k hk => by
    simp only [Value.ownBlock, Option.some.injEq] at hk; subst hk
    exact hat2.imp id (fun e => by rw [e, HYS.out]; exact Nat.le_refl _))
  have hcw : Chg (fun b => b = wb ∨ (Value.slice lad ds.length lcap).ownBlock = some b) w w2 := HCY.out.trans (hcg.mono (fun k _ e => Or.inr e))
  have hb2 := HLY.out.blk.chg hcg (own_blk HLY.out.prs HLY.out.blk (by decide))
  have d0 : w2.cell? ⟨wb, 0, none⟩ = some (.slice lad ds.length lcap) := hb2.cell 0 _ rfl
  have d1 := hb2.frozen 0
  have HFI := hidden hfin; have HCC := hidden (hcw.setCell (p := ⟨wb, 0, none⟩) (Or.inl rfl) (.slice (some ⟨g2, 0, none⟩) (ds.length + 1) cap2))
  clear hr2 hg2 hat2 hlt2 hcg hfin hcw hb2 c0
  go_wp2_with fail
  go_ret
  exact ⟨rfl, _, _, HFI.out, HCC.out⟩

end Go.Proofs.YtcphhbofjkenaaaGreatDoor

/- The law: Words. -/
namespace Go.Proofs.YtcphhbofjkenaaaGreatDoor
open Go Go.RowKit
set_option linter.unusedVariables false
set_option linter.unusedSimpArgs false

/-- No book has grown by much. -/
def GLe (G G' : G4) : Prop := ∀ j, j < 4 → (G'.get j).length ≤ (G.get j).length + 12
theorem GLe.refl (G : G4) : GLe G G := fun j _ => by omega
theorem GLe.of {G G' : G4} {j : Nat} (hj : j < 4) (h : G' = G.set j (G'.get j)) (hl : (G'.get j).length = (G.get j).length + 4) : GLe G G' := fun k hk => by
  by_cases e : k = j
  · subst e; omega
  · rw [h, G4.get_set G _ j hj k hk, if_neg e]; omega

theorem rowIs_own {w : World} {B g n : Nat} {t : TypeId} {f : Nat → Value} (h : w.rowIs g t n f) (hB : B ≤ g) (hn : n ≤ maxLen) : ∃ xs, w.ownsRow B t 1 (.slice (some ⟨g, 0, none⟩) n n) n xs := by
  obtain ⟨c, hc, hs, _⟩ := h
  exact ⟨c.toList, by simp [hs], Or.inr ⟨g, n, c, rfl, hB, hc, Nat.le_refl _, hn, by omega, by rw [Nat.mul_one, ← hs]; exact List.take_of_length_le (by simp)⟩⟩

set_option maxRecDepth 100000 in
set_option maxHeartbeats 8000000 in
theorem law_words {B : Nat} {w : World} {wb : Nat} {lv : Value} {bk : B4} {G : G4} {ds : List PD} {i : Nat} {d : PD} (h : LawAt B w wb lv bk G ds) (hi : ds[i]? = some d) (hg : G.n.length ≤ 90000000) :
    Calls Tryz.prog 65 #[.pointer (some ⟨wb, 0, none⟩), .agg #[.pointer (some ⟨d.bb, 0, none⟩), .pointer (some ⟨d.sb, 0, none⟩)]] w fun e w' => e = .returned (.bool true) ∧ ∃ bk' G', LawAt B w' wb lv bk' G' ds ∧ GLe G G' ∧ Below B w w' := by
  obtain ⟨pb, hpb⟩ : ∃ pb, pb = w.heap.size := ⟨_, rfl⟩
  have hb0 : Below w.heap.size w (w.alloc (.cells #[.pointer (some ⟨d.bb, 0, none⟩), .pointer (some ⟨d.sb, 0, none⟩)] 143 (0, 0))) := (Below.refl _ _).alloc (Nat.le_refl _) _
  obtain ⟨X, hX⟩ : ∃ X : World, X = w.alloc (.cells #[.pointer (some ⟨d.bb, 0, none⟩), .pointer (some ⟨d.sb, 0, none⟩)] 143 (0, 0)) := ⟨_, rfl⟩
  have hkX : Blk X pb #[.pointer (some ⟨d.bb, 0, none⟩), .pointer (some ⟨d.sb, 0, none⟩)] 143 := by rw [hX, hpb]; exact blk_new w _ _
  rw [← hX] at hb0
  have hLX := h.below hb0
  have hdX := hLX.at_ i d hi
  have hal := hdX.al
  have hle := hdX.li.l
  have HW := hidden (forth_words hdX.ps (by omega) hLX.tab)
  have HBX := hidden hb0; have HLX := hidden hLX; have HKX := hidden hkX; have HX := hidden hX; have HPB := hidden hpb
  have p0 : X.cell? ⟨pb, 0, none⟩ = some (.pointer (some ⟨d.bb, 0, none⟩)) := hkX.cell 0 _ rfl
  have HI := hidden hi; have HAL := hidden hal; have HL0 := hidden h
  clear h hi hb0 hkX hLX hdX hal hX hpb
  go_enter Tryz.func65, Tryz.ntmps65
  go_upto_region 1 with fail
  rw [← HX.out, ← HPB.out]
  go_wp2_with fail
  refine HW.out.mono ?_
  rintro e w1 ⟨g, rfl, hg1, hrow, hb1⟩
  have hL1 := HLX.out.below hb1
  have hK1 : Blk w1 pb #[.pointer (some ⟨d.bb, 0, none⟩), .pointer (some ⟨d.sb, 0, none⟩)] 143 := HKX.out.sub hb1 HKX.out.lt
  have hd1 := hL1.at_ i d HI.out
  obtain ⟨sad, scap, hsv, hsc, _⟩ := row_shape hd1.rs.row
  have q1 : w1.cell? ⟨pb, 1, none⟩ = some (.pointer (some ⟨d.sb, 0, none⟩)) := hK1.cell 1 _ rfl
  have q2 : w1.cell? ⟨d.sb, 0, none⟩ = some (.slice sad d.ws.length scap) := by rw [← hsv]; exact hd1.rs.cells.1
  have hlen : d.es.length = d.ws.length := HAL.out.len
  rw [hlen] at hrow hle
  rw [hlen]
  obtain ⟨N, hN⟩ : ∃ N, N = d.ws.length := ⟨_, rfl⟩
  rw [← hN] at hrow q2 hle
  rw [← hN]
  have HN := hidden hN; have HL1 := hidden hL1; have HRW := hidden hrow; have HB1 := hidden (HBX.out.trans (hb1.mono HBX.out.size)); have HSV := hidden hsv; have HD1 := hidden hd1; have HK1 := hidden hK1
  have hgw : w.heap.size ≤ g := Nat.le_trans HBX.out.size hg1
  clear HW hrow hb1 hL1 hK1 hd1 hN hlen hsv p0 HLX HKX HX
  go_wp2_with fail
  go_loopw [6, 7] (fun o i wr => o = .bool true ∧ ∃ k : Nat, k ≤ N ∧ i = .int .i64 k ∧ Hid (Below w1.heap.size w1 wr)) (fun _ i _ => N - (intOf i).toNat)
  case atStart => exact ⟨rfl, 0, Nat.zero_le _, rfl, Below.refl _ _⟩
  case round =>
    obtain ⟨rfl, k, hkN, rfl, HBR⟩ := hrel
    have hLr := HL1.out.below HBR.out
    have hdr := hLr.at_ i d HI.out
    have hKr := HK1.out.sub HBR.out HK1.out.lt
    have t1 : wr.cell? ⟨pb, 1, none⟩ = some (.pointer (some ⟨d.sb, 0, none⟩)) := hKr.cell 1 _ rfl
    have t2 : wr.cell? ⟨d.sb, 0, none⟩ = some (.slice sad N scap) := by rw [HN.out, ← HSV.out]; exact hdr.rs.cells.1
    have hRr := HRW.out.of_block (HBR.out.block g HRW.out.lt)
    by_cases hlt : k < N
    · have hli : (k : Int) < (N : Int) := by omega
      have hl0 : (0 : Int) ≤ (k : Int) := by omega
      have hd : decide ((k : Int) < (N : Int)) = true := by simpa using hlt
      obtain ⟨x, hx⟩ : ∃ x, x = nameAt d.ws k := ⟨_, rfl⟩
      have e1 : wr.cell? ⟨g, k, none⟩ = some (.string x) := by
        rw [hRr.cell hlt, hx]
        have hnm := congrArg (fun l => l.getD k ⟨#[]⟩) HAL.out.names
        have hlw : k < d.ws.length := by rw [← HN.out]; exact hlt
        have hle' : k < d.es.length := by rw [HAL.out.len]; exact hlw
        simp [hlw, hle'] at hnm
        simp [nameAt, hlw, hle', hnm]
      obtain ⟨sg, scap', hsv2, _, hsg, _, _, _⟩ := row_cells hdr.rs.row (by rw [← HN.out]; omega)
      have hsv3 := HSV.out
      rw [hsv3] at hsv2
      obtain ⟨rfl, rfl⟩ : sad = some ⟨sg, 0, none⟩ ∧ scap = scap' := by simpa using hsv2
      have e2 : wr.cell? ⟨sg, k * 8, none⟩ = some (.string x) := by
        have := ws_cell hdr.rs.row hsv3 k 0 (by rw [← HN.out]; exact hlt) (.string (d.ws[k]'(by rw [← HN.out]; exact hlt)).name) (by omega) rfl
        rw [Nat.add_zero] at this
        rw [this, hx]
        simp [nameAt, show k < d.ws.length by rw [← HN.out]; exact hlt]
      clear hx hsv2 hsv3 hLr hdr hKr hRr hsg
      go_wp2_with fail
      go_quiet (fail)
      go_wp2_with fail
      go_roundw
      case rel => exact ⟨rfl, k + 1, by omega, by go_num, hidden (HBR.out.trans ⟨rfl, rfl, rfl, Nat.le_refl _, fun _ _ => rfl⟩)⟩
      case measure => simp [intOf]; omega
    · obtain rfl : k = N := by omega
      have hli : ¬ (k : Int) < (k : Int) := by omega
      have hbW : Below w.heap.size w wr := HB1.out.trans (HBR.out.mono HB1.out.size)
      have hBg : B ≤ g := Nat.le_trans HL0.out.le hgw
      obtain ⟨xs, hxs⟩ := rowIs_own (B := B) hRr hBg (by unfold maxLen; omega)
      have HKP := hidden (law_keeps0 B wr wb lv bk G.n g k xs hLr.blk (hLr.bok.row 0 (by omega)) (by omega) (by omega) hLr.le hxs)
      have HLR := hidden hLr; have HBW := hidden hbW; have HXS := hidden hxs
      have hwbw := hLr.blk.lt
      clear hLr hdr hKr hRr t1 t2 hbW hxs HL1 HRW HK1 HD1
      go_wp2_with fail
      refine HKP.out.mono ?_
      intro e w5 hp5
      obtain rfl := hp5.1
      have H5 := hidden hp5
      clear hp5 HKP
      go_wp2_with fail
      go_ret
      have hgl := own_lt HXS.out (k := g) rfl
      obtain ⟨bk', G', hL', hG', hl', _, hc'⟩ := HLR.out.keeps (j := 0) (by omega) (fun b hb => by
        obtain rfl : g = b := by simpa [Value.ownBlock] using hb
        have hw0 := HL0.out.blk.lt
        refine ⟨hBg, hgl, by omega, fun e => ?_, fun e => ?_, fun i d hd e => ?_⟩
        · have := own_lt HL0.out.prs e; omega
        · have := HL0.out.bok.lt e; omega
        · have := (HL0.out.at_ i d hd).lt e; omega) H5.out
      refine ⟨rfl, bk', G', hL', GLe.of (by omega) hG' hl', (HBW.out.mono HL0.out.le).trans (hc'.toBelow HLR.out.le (fun b hb e => ?_))⟩
      have hwB := HL0.out.bas.2
      rcases e with e | e | e
      · omega
      · obtain rfl : g = b := by simpa [Value.ownBlock] using e
        omega
      · have := HLR.out.bok.base e; omega

end Go.Proofs.YtcphhbofjkenaaaGreatDoor

/- The law's steps: New, Load. -/
namespace Go.Proofs.YtcphhbofjkenaaaGreatDoor
open Go Go.RowKit
set_option linter.unusedVariables false
set_option linter.unusedSimpArgs false
attribute [local go_sem] quietF

/-- What a step leaves. -/
def LStep (B : Nat) (w : World) (wb : Nat) (ds : List PD) (G : G4) (n : Nat) (e : Ending) (w' : World) : Prop :=
  e = .returned (.bool true) ∧ ∃ lv' bk' G' ds', LawAt B w' wb lv' bk' G' ds' ∧ ds.length + n ≤ ds'.length ∧ ds'.length ≤ ds.length + 1 ∧ GLe G G' ∧ Below B w w'

theorem pick_nat (c : Int) (n : Nat) (hn : 0 < n) : ∃ i : Nat, pickS c n = (i : Int) ∧ i < n := by
  obtain ⟨h1, h2⟩ := pickS_bd c n (by omega)
  exact ⟨(pickS c n).toNat, by omega, by omega⟩

set_option maxRecDepth 100000 in
set_option maxHeartbeats 8000000 in
theorem law_step_new {B : Nat} {w : World} {wb : Nat} {lv : Value} {bk : B4} {G : G4} {ds : List PD} (h : LawAt B w wb lv bk G ds) (hl : ds.length ≤ 9000000)
    (A C : Int) (S : ByteArray) (a1 a2 a3 : Option Addr) (n1 c1 n2 c2 n3 c3 : Nat) :
    Calls Tryz.prog 35 #[.pointer (some ⟨wb, 0, none⟩), .agg #[.int .i64 1, .int .i64 A, .int .i64 C, .string S, .slice a1 n1 c1, .slice a2 n2 c2, .slice a3 n3 c3]] w (LStep B w wb ds G 1) := by
  have hb0 : ∀ o, Below w.heap.size w (w.alloc o) := fun o => (Below.refl _ _).alloc (Nat.le_refl _) _
  have HM := hidden (fun o => law_made (h.below (hb0 o)) (by omega))
  have HL := hidden h
  clear h hb0
  go_enter Tryz.func35, Tryz.ntmps35
  go_wp2_with fail
  refine (HM.out _).mono ?_
  rintro e w1 ⟨rfl, lv', d, hL1, hc1⟩
  have HL1 := hidden hL1; have HC1 := hidden hc1
  clear HM hL1 hc1
  go_wp2_with fail
  go_ret
  have hca := HC1.out
  have hbb : ∀ o, Below w.heap.size w (w.alloc o) := fun o => (Below.refl _ _).alloc (Nat.le_refl _) _
  refine ⟨rfl, lv', bk, G, ds ++ [d], HL1.out, by simp, by simp, GLe.refl _, ?_⟩
  · refine ((hbb _).mono HL.out.le).trans (hca.toBelow (by simp; have := HL.out.le; omega) (fun k hk e => ?_))
    rcases e with e | e
    · have := HL.out.bas.2; omega
    · have := own_base HL.out.prs e; omega

set_option maxRecDepth 100000 in
set_option maxHeartbeats 8000000 in
theorem law_step_load {B : Nat} {w : World} {wb : Nat} {lv : Value} {bk : B4} {G : G4} {ds : List PD} (h : LawAt B w wb lv bk G ds) (hp : 0 < ds.length) (hl : ds.length ≤ 9000000)
    (A C : Int) (S : ByteArray) (a1 a2 a3 : Option Addr) (n1 c1 n2 c2 n3 c3 : Nat) (hA0 : -9223372036854775808 ≤ A) (hA1 : A ≤ 9223372036854775807) (hS : S.size ≤ 1100000) :
    Calls Tryz.prog 35 #[.pointer (some ⟨wb, 0, none⟩), .agg #[.int .i64 2, .int .i64 A, .int .i64 C, .string S, .slice a1 n1 c1, .slice a2 n2 c2, .slice a3 n3 c3]] w (LStep B w wb ds G 0) := by
  obtain ⟨lad, lcap, hlv, hlc, _⟩ := row_shape h.prs
  subst hlv
  obtain ⟨i, hpi, hil⟩ := pick_nat A ds.length hp
  obtain ⟨d, hd⟩ : ∃ d, ds[i]? = some d := ⟨_, List.getElem?_eq_getElem hil⟩
  obtain ⟨X, hX⟩ : ∃ X : World, X = w.alloc (.cells #[.int .i64 2, .int .i64 A, .int .i64 C, .string S, .slice a1 n1 c1, .slice a2 n2 c2, .slice a3 n3 c3] 86 (0, 0)) := ⟨_, rfl⟩
  obtain ⟨ob, hob⟩ : ∃ ob, ob = w.heap.size := ⟨_, rfl⟩
  have hbX : Below w.heap.size w X := by rw [hX]; exact (Below.refl _ _).alloc (Nat.le_refl _) _
  have hkX : Blk X ob #[.int .i64 2, .int .i64 A, .int .i64 C, .string S, .slice a1 n1 c1, .slice a2 n2 c2, .slice a3 n3 c3] 86 := by rw [hX, hob]; exact blk_new w _ _
  have hLX := h.below hbX
  have o0 : X.cell? ⟨ob, 0, none⟩ = some (.int .i64 2) := hkX.cell 0 _ rfl
  have o1 : X.cell? ⟨ob, 1, none⟩ = some (.int .i64 A) := hkX.cell 1 _ rfl
  have o3 : X.cell? ⟨ob, 3, none⟩ = some (.string S) := hkX.cell 3 _ rfl
  have w0 : X.cell? ⟨wb, 0, none⟩ = some (.slice lad ds.length lcap) := hLX.blk.cell 0 _ rfl
  obtain ⟨lg, lcap', hv, _, hlgx, _, _, hcell⟩ := row_cells hLX.prs hp
  obtain ⟨rfl, rfl⟩ : lad = some ⟨lg, 0, none⟩ ∧ lcap = lcap' := by simpa using hv
  have g0 : X.cell? ⟨lg, i * 2, none⟩ = some (.pointer (some ⟨d.bb, 0, none⟩)) := by
    refine hcell _ _ ?_
    have := flat_get PD.cells 2 (fun _ => rfl) ds i 0 hil (by omega)
    rw [Nat.add_zero] at this
    rw [this, (List.getElem?_eq_some_iff.1 hd).2]; rfl
  have g1 : X.cell? ⟨lg, i * 2 + 1, none⟩ = some (.pointer (some ⟨d.sb, 0, none⟩)) := by
    refine hcell _ _ ?_
    rw [flat_get PD.cells 2 (fun _ => rfl) ds i 1 hil (by omega), (List.getElem?_eq_some_iff.1 hd).2]; rfl
  have HX := hidden hX; have HOB := hidden hob; have HL := hidden h; have HLX := hidden hLX; have HKX := hidden hkX; have HBX := hidden hbX; have HD := hidden hd
  have hli : (i : Int) < (ds.length : Int) := by omega
  have hl0 : (0 : Int) ≤ (i : Int) := by omega
  have hln : (ds.length : Int) ≤ 9000000 := by omega
  have HPK := hidden (fun w' => (law_pick A ds.length w' (by omega) (by omega) hA0 hA1).mono (fun e w2 (he : e = .returned (.int .i64 (pickS A ds.length)) ∧ w2 = w') => (show e = .returned (.int .i64 i) ∧ Below w'.heap.size w' w2 by rw [he.1, he.2, hpi]; exact ⟨rfl, Below.refl _ _⟩)))
  clear h hX hob hbX hkX hLX hd hv hcell hpi
  go_enter Tryz.func35, Tryz.ntmps35
  go_upto_region 1 with fail
  rw [← HX.out, ← HOB.out]
  go_upto_region 3 with fail
  have hne := UndA.ne X.heap.size X #[.pointer none, .pointer none] 143 (Nat.le_refl _)
  have k0 : ∀ (S' : Option Nat) (u : UndA X.heap.size X #[.pointer none, .pointer none] 143 S'), u.val.cell? ⟨wb, 0, none⟩ = some (.slice (some ⟨lg, 0, none⟩) ds.length lcap) := fun S' u => u.cell w0 (World.block_lt_of_cell? X _ w0)
  have k1 : ∀ (S' : Option Nat) (u : UndA X.heap.size X #[.pointer none, .pointer none] 143 S'), u.val.cell? ⟨ob, 1, none⟩ = some (.int .i64 A) := fun S' u => u.cell o1 (World.block_lt_of_cell? X _ o1)
  have k2 : ∀ (S' : Option Nat) (u : UndA X.heap.size X #[.pointer none, .pointer none] 143 S'), u.val.cell? ⟨lg, i * 2, none⟩ = some (.pointer (some ⟨d.bb, 0, none⟩)) := fun S' u => u.cell g0 (World.block_lt_of_cell? X _ g0)
  have k3 : ∀ (S' : Option Nat) (u : UndA X.heap.size X #[.pointer none, .pointer none] 143 S'), u.val.cell? ⟨lg, i * 2 + 1, none⟩ = some (.pointer (some ⟨d.sb, 0, none⟩)) := fun S' u => u.cell g1 (World.block_lt_of_cell? X _ g1)
  refine wp_region_new #[.pointer none, .pointer none] 143 14 (by kernel_rfl) (by kernel_rfl) rfl (fun _ => rfl) (fun a w => by simp [go_sem]) ?_
  simp only [List.take_succ_cons, List.take_zero, List.drop_succ_cons, List.drop_zero]
  repeat (refine wpQuietF_step (fun K hK => ?_); go_simp; first | (refine hK _ ?_; clear hK K) | (apply Exists.intro; refine ⟨fun S u => ?_, hK _ ?_⟩; (go_at_call 63; exact UndA.calls (Nat.le_refl _) u (HPK.out _)); clear hK K))
  refine wpQuietF_nil ?_
  intro pb w6 hpb hbel hblk
  have z0 : w6.cell? ⟨pb, 0, none⟩ = some (.pointer none) := hblk.cell 0 _ rfl
  have z1 : w6.cell? ⟨pb, 1, none⟩ = some (.pointer none) := hblk.cell 1 _ rfl
  have y0 := hblk.frozen 0; have y1 := hblk.frozen 1
  have hltpb := hblk.lt
  obtain ⟨V, hV⟩ : ∃ V : World, V = (w6.setCell ⟨pb, 0, none⟩ (.pointer (some ⟨d.bb, 0, none⟩))).setCell ⟨pb, 1, none⟩ (.pointer (some ⟨d.sb, 0, none⟩)) := ⟨_, rfl⟩
  have hkV : Blk V pb #[.pointer (some ⟨d.bb, 0, none⟩), .pointer (some ⟨d.sb, 0, none⟩)] 143 := by
    rw [hV]; have := (hblk.set (o := 0) (.pointer (some ⟨d.bb, 0, none⟩))).set (o := 1) (.pointer (some ⟨d.sb, 0, none⟩)); simpa using this
  have hbV : Below X.heap.size X V := by rw [hV]; exact (hbel.setCell hpb _).setCell hpb _
  have HKV := hidden hkV; have HBV := hidden hbV; have HV := hidden hV
  clear k0 k1 k2 k3 hne hblk hbel hkV hbV o0 o1 o3 w0 g0 g1 hV
  go_simp
  go_upto_region 4 with fail
  rw [← HV.out]
  clear z0 z1 y0 y1
  have hLV := HLX.out.below HBV.out
  have hoV := HKX.out.sub HBV.out HKX.out.lt
  have hdV := hLV.at_ i d HD.out
  have o0 : V.cell? ⟨ob, 0, none⟩ = some (.int .i64 2) := hoV.cell 0 _ rfl
  have o3 : V.cell? ⟨ob, 3, none⟩ = some (.string S) := hoV.cell 3 _ rfl
  have p0 : V.cell? ⟨pb, 0, none⟩ = some (.pointer (some ⟨d.bb, 0, none⟩)) := HKV.out.cell 0 _ rfl
  have HLD := hidden (forth_load S hdV.ps hLV.tab hS hdV.li)
  have HRL := hidden (fun (w' : World) (hr : RefSys w' d.sb d.sv d.ws d.nv d.nt) => ref_load S d.sb d.sv w' hr hdV.al hdV.li hdV.ok hS)
  obtain ⟨R, hR⟩ : ∃ R, R = loadR S d.es d.nv d.nt d.code := ⟨_, rfl⟩
  rw [← hR] at HLD HRL
  obtain ⟨⟨r, q⟩, es', nv', nt', code'⟩ := R
  have HLV := hidden hLV; have HOV := hidden hoV; have HDV := hidden hdV
  clear hLV hoV hdV hR
  go_wp2_with fail
  refine HLD.out.mono ?_
  rintro e w7 ⟨rfl, ⟨ev', cv', hps7, htab7, hle7, hlc7⟩, hli7, hc7⟩
  simp only at hps7 hli7
  have hsub7 : ∀ k, (k = d.bb ∨ d.ev.ownBlock = some k ∨ d.cv.ownBlock = some k) → d.foot k := fun k e => e.elim Or.inl (fun e => e.elim (fun e => Or.inr (Or.inl e)) (fun e => Or.inr (Or.inr (Or.inl e))))
  have hpb7 := HKV.out.chg hc7 (fun e => HDV.out.otherB HKV.out (by decide) (by decide) (by decide) (by decide) (by decide) (hsub7 _ e))
  have hob7 := HOV.out.chg hc7 (fun e => HDV.out.otherB HOV.out (by decide) (by decide) (by decide) (by decide) (by decide) (hsub7 _ e))
  have hrs7 : RefSys w7 d.sb d.sv d.ws d.nv d.nt := HDV.out.rs.chg hc7 (fun e => by
      rcases e with e | e | e
      · exact blk_ne HDV.out.rs.blk HDV.out.ps.blk (by decide) e
      · exact own_blk HDV.out.ps.row HDV.out.rs.blk (by decide) e
      · exact own_blk HDV.out.ps.cod HDV.out.rs.blk (by decide) e) (fun k hk e => by
      rcases e with e | e | e
      · exact own_blk HDV.out.rs.row HDV.out.ps.blk (by decide) (by rw [hk, e])
      · exact own_own HDV.out.rs.row HDV.out.ps.row (by decide) hk e
      · exact own_own HDV.out.rs.row HDV.out.ps.cod (by decide) hk e)
  have o3' : w7.cell? ⟨ob, 3, none⟩ = some (.string S) := hob7.cell 3 _ rfl
  have p1' : w7.cell? ⟨pb, 1, none⟩ = some (.pointer (some ⟨d.sb, 0, none⟩)) := hpb7.cell 1 _ rfl
  have H7 := hidden (And.intro hps7 (And.intro hle7 (And.intro hlc7 (And.intro hli7 (And.intro hc7 hrs7))))); have HS7 := hidden hsub7
  clear hps7 htab7 hle7 hlc7 hli7 hc7 hrs7 hpb7 hob7 hsub7 o0 o3 p0 HLD
  go_wp2_with fail
  refine (HRL.out _ H7.out.2.2.2.2.2).mono ?_
  rintro e w8 ⟨rfl, ⟨sv', ws', hrs8, hal8, hok8, hlc8⟩, hc8⟩
  simp only at hrs8 hal8
  have H8 := hidden (And.intro hrs8 (And.intro hal8 (And.intro hok8 (And.intro hlc8 hc8))))
  clear hrs8 hal8 hok8 hlc8 hc8 HRL o3' p1'
  go_wp2_with fail
  go_ret
  obtain ⟨hps7, hle7, hlc7, hli7, hc7, hrs7⟩ := H7.out
  obtain ⟨hrs8, hal8, hok8, hlc8, hc8⟩ := H8.out
  have hps8 : PSys w8 d.bb ev' cv' es' nv' nt' code' := hps7.chg hc8 (fun e => by
      rcases e with e | e
      · exact blk_ne hps7.blk hrs7.blk (by decide) e
      · exact own_blk hrs7.row hps7.blk (by decide) e) (fun k hk e => by
      rcases e with e | e
      · exact own_blk hps7.row hrs7.blk (by decide) (by rw [hk, e])
      · exact own_own hps7.row hrs7.row (by decide) hk e) (fun k hk e => by
      rcases e with e | e
      · exact own_blk hps7.cod hrs7.blk (by decide) (by rw [hk, e])
      · exact own_own hps7.cod hrs7.row (by decide) hk e)
  have hcV : Chg d.foot V w8 := (hc7.mono (fun k _ e => HS7.out k e)).trans (hc8.mono (fun k _ e => e.elim (fun e => Or.inr (Or.inr (Or.inr (Or.inl e)))) (fun e => Or.inr (Or.inr (Or.inr (Or.inr e))))))
  have hf : ∀ k, (⟨d.bb, ev', cv', es', nv', nt', code', d.sb, sv', ws'⟩ : PD).foot k → d.foot k ∨ V.heap.size ≤ k := fun k hk => by
    rcases hk with e | e | e | e | e
    · exact Or.inl (Or.inl e)
    · exact (hle7 k e).imp (fun e => Or.inr (Or.inl e)) id
    · exact (hlc7 k e).imp (fun e => Or.inr (Or.inr (Or.inl e))) id
    · exact Or.inl (Or.inr (Or.inr (Or.inr (Or.inl e))))
    · exact (hlc8 k e).imp (fun e => Or.inr (Or.inr (Or.inr (Or.inr e)))) (fun e => Nat.le_trans hc7.size e)
  have hVB := HLV.out.le
  have hfin := HLV.out.turn HD.out (d' := ⟨d.bb, ev', cv', es', nv', nt', code', d.sb, sv', ws'⟩) rfl rfl hcV ⟨hps8, hli7, hrs8, hal8, hok8, fun k hk => (hf k hk).elim (fun e => HDV.out.fp k e) (fun e => Nat.le_trans hVB e)⟩ hf
  refine ⟨rfl, _, bk, G, _, hfin, by simp, by simp, GLe.refl _, ?_⟩
  · exact ((HBX.out.mono HL.out.le).trans (HBV.out.mono HLX.out.le)).trans (hcV.toBelow hVB (fun k hk e => by have := HDV.out.fp k e; omega))

end Go.Proofs.YtcphhbofjkenaaaGreatDoor

/- The law's steps: Words, Find. -/
namespace Go.Proofs.YtcphhbofjkenaaaGreatDoor
open Go Go.RowKit
set_option linter.unusedVariables false
set_option linter.unusedSimpArgs false
attribute [local go_sem] quietF

set_option maxRecDepth 100000 in
set_option maxHeartbeats 8000000 in
theorem law_step_words {B : Nat} {w : World} {wb : Nat} {lv : Value} {bk : B4} {G : G4} {ds : List PD} (h : LawAt B w wb lv bk G ds) (hp : 0 < ds.length) (hl : ds.length ≤ 9000000) (hg : G.n.length ≤ 90000000)
    (A C : Int) (S : ByteArray) (a1 a2 a3 : Option Addr) (n1 c1 n2 c2 n3 c3 : Nat) (hA0 : -9223372036854775808 ≤ A) (hA1 : A ≤ 9223372036854775807) (hS : S.size ≤ 1100000) :
    Calls Tryz.prog 35 #[.pointer (some ⟨wb, 0, none⟩), .agg #[.int .i64 3, .int .i64 A, .int .i64 C, .string S, .slice a1 n1 c1, .slice a2 n2 c2, .slice a3 n3 c3]] w (LStep B w wb ds G 0) := by
  obtain ⟨lad, lcap, hlv, hlc, _⟩ := row_shape h.prs
  subst hlv
  obtain ⟨i, hpi, hil⟩ := pick_nat A ds.length hp
  obtain ⟨d, hd⟩ : ∃ d, ds[i]? = some d := ⟨_, List.getElem?_eq_getElem hil⟩
  obtain ⟨X, hX⟩ : ∃ X : World, X = w.alloc (.cells #[.int .i64 3, .int .i64 A, .int .i64 C, .string S, .slice a1 n1 c1, .slice a2 n2 c2, .slice a3 n3 c3] 86 (0, 0)) := ⟨_, rfl⟩
  obtain ⟨ob, hob⟩ : ∃ ob, ob = w.heap.size := ⟨_, rfl⟩
  have hbX : Below w.heap.size w X := by rw [hX]; exact (Below.refl _ _).alloc (Nat.le_refl _) _
  have hkX : Blk X ob #[.int .i64 3, .int .i64 A, .int .i64 C, .string S, .slice a1 n1 c1, .slice a2 n2 c2, .slice a3 n3 c3] 86 := by rw [hX, hob]; exact blk_new w _ _
  have hLX := h.below hbX
  have o0 : X.cell? ⟨ob, 0, none⟩ = some (.int .i64 3) := hkX.cell 0 _ rfl
  have o1 : X.cell? ⟨ob, 1, none⟩ = some (.int .i64 A) := hkX.cell 1 _ rfl
  have o3 : X.cell? ⟨ob, 3, none⟩ = some (.string S) := hkX.cell 3 _ rfl
  have w0 : X.cell? ⟨wb, 0, none⟩ = some (.slice lad ds.length lcap) := hLX.blk.cell 0 _ rfl
  obtain ⟨lg, lcap', hv, _, hlgx, _, _, hcell⟩ := row_cells hLX.prs hp
  obtain ⟨rfl, rfl⟩ : lad = some ⟨lg, 0, none⟩ ∧ lcap = lcap' := by simpa using hv
  have g0 : X.cell? ⟨lg, i * 2, none⟩ = some (.pointer (some ⟨d.bb, 0, none⟩)) := by
    refine hcell _ _ ?_
    have := flat_get PD.cells 2 (fun _ => rfl) ds i 0 hil (by omega)
    rw [Nat.add_zero] at this
    rw [this, (List.getElem?_eq_some_iff.1 hd).2]; rfl
  have g1 : X.cell? ⟨lg, i * 2 + 1, none⟩ = some (.pointer (some ⟨d.sb, 0, none⟩)) := by
    refine hcell _ _ ?_
    rw [flat_get PD.cells 2 (fun _ => rfl) ds i 1 hil (by omega), (List.getElem?_eq_some_iff.1 hd).2]; rfl
  have HX := hidden hX; have HOB := hidden hob; have HL := hidden h; have HLX := hidden hLX; have HKX := hidden hkX; have HBX := hidden hbX; have HD := hidden hd
  have hli : (i : Int) < (ds.length : Int) := by omega
  have hl0 : (0 : Int) ≤ (i : Int) := by omega
  have hln : (ds.length : Int) ≤ 9000000 := by omega
  have HPK := hidden (fun w' => (law_pick A ds.length w' (by omega) (by omega) hA0 hA1).mono (fun e w2 (he : e = .returned (.int .i64 (pickS A ds.length)) ∧ w2 = w') => (show e = .returned (.int .i64 i) ∧ Below w'.heap.size w' w2 by rw [he.1, he.2, hpi]; exact ⟨rfl, Below.refl _ _⟩)))
  clear h hX hob hbX hkX hLX hd hv hcell hpi
  go_enter Tryz.func35, Tryz.ntmps35
  go_upto_region 1 with fail
  rw [← HX.out, ← HOB.out]
  go_upto_region 3 with fail
  have hne := UndA.ne X.heap.size X #[.pointer none, .pointer none] 143 (Nat.le_refl _)
  have k0 : ∀ (S' : Option Nat) (u : UndA X.heap.size X #[.pointer none, .pointer none] 143 S'), u.val.cell? ⟨wb, 0, none⟩ = some (.slice (some ⟨lg, 0, none⟩) ds.length lcap) := fun S' u => u.cell w0 (World.block_lt_of_cell? X _ w0)
  have k1 : ∀ (S' : Option Nat) (u : UndA X.heap.size X #[.pointer none, .pointer none] 143 S'), u.val.cell? ⟨ob, 1, none⟩ = some (.int .i64 A) := fun S' u => u.cell o1 (World.block_lt_of_cell? X _ o1)
  have k2 : ∀ (S' : Option Nat) (u : UndA X.heap.size X #[.pointer none, .pointer none] 143 S'), u.val.cell? ⟨lg, i * 2, none⟩ = some (.pointer (some ⟨d.bb, 0, none⟩)) := fun S' u => u.cell g0 (World.block_lt_of_cell? X _ g0)
  have k3 : ∀ (S' : Option Nat) (u : UndA X.heap.size X #[.pointer none, .pointer none] 143 S'), u.val.cell? ⟨lg, i * 2 + 1, none⟩ = some (.pointer (some ⟨d.sb, 0, none⟩)) := fun S' u => u.cell g1 (World.block_lt_of_cell? X _ g1)
  refine wp_region_new #[.pointer none, .pointer none] 143 14 (by kernel_rfl) (by kernel_rfl) rfl (fun _ => rfl) (fun a w => by simp [go_sem]) ?_
  simp only [List.take_succ_cons, List.take_zero, List.drop_succ_cons, List.drop_zero]
  repeat (refine wpQuietF_step (fun K hK => ?_); go_simp; first | (refine hK _ ?_; clear hK K) | (apply Exists.intro; refine ⟨fun S u => ?_, hK _ ?_⟩; (go_at_call 63; exact UndA.calls (Nat.le_refl _) u (HPK.out _)); clear hK K))
  refine wpQuietF_nil ?_
  intro pb w6 hpb hbel hblk
  have z0 : w6.cell? ⟨pb, 0, none⟩ = some (.pointer none) := hblk.cell 0 _ rfl
  have z1 : w6.cell? ⟨pb, 1, none⟩ = some (.pointer none) := hblk.cell 1 _ rfl
  have y0 := hblk.frozen 0; have y1 := hblk.frozen 1
  have hltpb := hblk.lt
  obtain ⟨V, hV⟩ : ∃ V : World, V = (w6.setCell ⟨pb, 0, none⟩ (.pointer (some ⟨d.bb, 0, none⟩))).setCell ⟨pb, 1, none⟩ (.pointer (some ⟨d.sb, 0, none⟩)) := ⟨_, rfl⟩
  have hkV : Blk V pb #[.pointer (some ⟨d.bb, 0, none⟩), .pointer (some ⟨d.sb, 0, none⟩)] 143 := by
    rw [hV]; have := (hblk.set (o := 0) (.pointer (some ⟨d.bb, 0, none⟩))).set (o := 1) (.pointer (some ⟨d.sb, 0, none⟩)); simpa using this
  have hbV : Below X.heap.size X V := by rw [hV]; exact (hbel.setCell hpb _).setCell hpb _
  have HKV := hidden hkV; have HBV := hidden hbV; have HV := hidden hV
  clear k0 k1 k2 k3 hne hblk hbel hkV hbV o0 o1 o3 w0 g0 g1 hV
  go_simp
  go_upto_region 4 with fail
  rw [← HV.out]
  clear z0 z1 y0 y1
  have hLV := HLX.out.below HBV.out
  have hoV := HKX.out.sub HBV.out HKX.out.lt
  have o0 : V.cell? ⟨ob, 0, none⟩ = some (.int .i64 3) := hoV.cell 0 _ rfl
  have p0 : V.cell? ⟨pb, 0, none⟩ = some (.pointer (some ⟨d.bb, 0, none⟩)) := HKV.out.cell 0 _ rfl
  have p1 : V.cell? ⟨pb, 1, none⟩ = some (.pointer (some ⟨d.sb, 0, none⟩)) := HKV.out.cell 1 _ rfl
  have HWD := hidden (law_words hLV HD.out hg)
  clear hLV hoV
  go_wp2_with fail
  refine HWD.out.mono ?_
  rintro e w8 ⟨rfl, bk', G', hL8, hn8, hb8⟩
  have H8 := hidden (And.intro hL8 (And.intro hn8 hb8))
  clear hL8 hn8 hb8 HWD o0 p0 p1
  go_wp2_with fail
  go_ret
  obtain ⟨hL8, hn8, hb8⟩ := H8.out
  exact ⟨rfl, _, bk', G', ds, hL8, by simp, by omega, hn8, ((HBX.out.mono HL.out.le).trans (HBV.out.mono HLX.out.le)).trans hb8⟩

set_option maxRecDepth 100000 in
set_option maxHeartbeats 8000000 in
theorem law_step_find {B : Nat} {w : World} {wb : Nat} {lv : Value} {bk : B4} {G : G4} {ds : List PD} (h : LawAt B w wb lv bk G ds) (hp : 0 < ds.length) (hl : ds.length ≤ 9000000)
    (A C : Int) (S : ByteArray) (a1 a2 a3 : Option Addr) (n1 c1 n2 c2 n3 c3 : Nat) (hA0 : -9223372036854775808 ≤ A) (hA1 : A ≤ 9223372036854775807) (hS : S.size ≤ 1100000) :
    Calls Tryz.prog 35 #[.pointer (some ⟨wb, 0, none⟩), .agg #[.int .i64 4, .int .i64 A, .int .i64 C, .string S, .slice a1 n1 c1, .slice a2 n2 c2, .slice a3 n3 c3]] w (LStep B w wb ds G 0) := by
  obtain ⟨lad, lcap, hlv, hlc, _⟩ := row_shape h.prs
  subst hlv
  obtain ⟨i, hpi, hil⟩ := pick_nat A ds.length hp
  obtain ⟨d, hd⟩ : ∃ d, ds[i]? = some d := ⟨_, List.getElem?_eq_getElem hil⟩
  obtain ⟨X, hX⟩ : ∃ X : World, X = w.alloc (.cells #[.int .i64 4, .int .i64 A, .int .i64 C, .string S, .slice a1 n1 c1, .slice a2 n2 c2, .slice a3 n3 c3] 86 (0, 0)) := ⟨_, rfl⟩
  obtain ⟨ob, hob⟩ : ∃ ob, ob = w.heap.size := ⟨_, rfl⟩
  have hbX : Below w.heap.size w X := by rw [hX]; exact (Below.refl _ _).alloc (Nat.le_refl _) _
  have hkX : Blk X ob #[.int .i64 4, .int .i64 A, .int .i64 C, .string S, .slice a1 n1 c1, .slice a2 n2 c2, .slice a3 n3 c3] 86 := by rw [hX, hob]; exact blk_new w _ _
  have hLX := h.below hbX
  have o0 : X.cell? ⟨ob, 0, none⟩ = some (.int .i64 4) := hkX.cell 0 _ rfl
  have o1 : X.cell? ⟨ob, 1, none⟩ = some (.int .i64 A) := hkX.cell 1 _ rfl
  have o3 : X.cell? ⟨ob, 3, none⟩ = some (.string S) := hkX.cell 3 _ rfl
  have w0 : X.cell? ⟨wb, 0, none⟩ = some (.slice lad ds.length lcap) := hLX.blk.cell 0 _ rfl
  obtain ⟨lg, lcap', hv, _, hlgx, _, _, hcell⟩ := row_cells hLX.prs hp
  obtain ⟨rfl, rfl⟩ : lad = some ⟨lg, 0, none⟩ ∧ lcap = lcap' := by simpa using hv
  have g0 : X.cell? ⟨lg, i * 2, none⟩ = some (.pointer (some ⟨d.bb, 0, none⟩)) := by
    refine hcell _ _ ?_
    have := flat_get PD.cells 2 (fun _ => rfl) ds i 0 hil (by omega)
    rw [Nat.add_zero] at this
    rw [this, (List.getElem?_eq_some_iff.1 hd).2]; rfl
  have g1 : X.cell? ⟨lg, i * 2 + 1, none⟩ = some (.pointer (some ⟨d.sb, 0, none⟩)) := by
    refine hcell _ _ ?_
    rw [flat_get PD.cells 2 (fun _ => rfl) ds i 1 hil (by omega), (List.getElem?_eq_some_iff.1 hd).2]; rfl
  have HX := hidden hX; have HOB := hidden hob; have HL := hidden h; have HLX := hidden hLX; have HKX := hidden hkX; have HBX := hidden hbX; have HD := hidden hd
  have hli : (i : Int) < (ds.length : Int) := by omega
  have hl0 : (0 : Int) ≤ (i : Int) := by omega
  have hln : (ds.length : Int) ≤ 9000000 := by omega
  have HPK := hidden (fun w' => (law_pick A ds.length w' (by omega) (by omega) hA0 hA1).mono (fun e w2 (he : e = .returned (.int .i64 (pickS A ds.length)) ∧ w2 = w') => (show e = .returned (.int .i64 i) ∧ Below w'.heap.size w' w2 by rw [he.1, he.2, hpi]; exact ⟨rfl, Below.refl _ _⟩)))
  clear h hX hob hbX hkX hLX hd hv hcell hpi
  go_enter Tryz.func35, Tryz.ntmps35
  go_upto_region 1 with fail
  rw [← HX.out, ← HOB.out]
  go_upto_region 3 with fail
  have hne := UndA.ne X.heap.size X #[.pointer none, .pointer none] 143 (Nat.le_refl _)
  have k0 : ∀ (S' : Option Nat) (u : UndA X.heap.size X #[.pointer none, .pointer none] 143 S'), u.val.cell? ⟨wb, 0, none⟩ = some (.slice (some ⟨lg, 0, none⟩) ds.length lcap) := fun S' u => u.cell w0 (World.block_lt_of_cell? X _ w0)
  have k1 : ∀ (S' : Option Nat) (u : UndA X.heap.size X #[.pointer none, .pointer none] 143 S'), u.val.cell? ⟨ob, 1, none⟩ = some (.int .i64 A) := fun S' u => u.cell o1 (World.block_lt_of_cell? X _ o1)
  have k2 : ∀ (S' : Option Nat) (u : UndA X.heap.size X #[.pointer none, .pointer none] 143 S'), u.val.cell? ⟨lg, i * 2, none⟩ = some (.pointer (some ⟨d.bb, 0, none⟩)) := fun S' u => u.cell g0 (World.block_lt_of_cell? X _ g0)
  have k3 : ∀ (S' : Option Nat) (u : UndA X.heap.size X #[.pointer none, .pointer none] 143 S'), u.val.cell? ⟨lg, i * 2 + 1, none⟩ = some (.pointer (some ⟨d.sb, 0, none⟩)) := fun S' u => u.cell g1 (World.block_lt_of_cell? X _ g1)
  refine wp_region_new #[.pointer none, .pointer none] 143 14 (by kernel_rfl) (by kernel_rfl) rfl (fun _ => rfl) (fun a w => by simp [go_sem]) ?_
  simp only [List.take_succ_cons, List.take_zero, List.drop_succ_cons, List.drop_zero]
  repeat (refine wpQuietF_step (fun K hK => ?_); go_simp; first | (refine hK _ ?_; clear hK K) | (apply Exists.intro; refine ⟨fun S u => ?_, hK _ ?_⟩; (go_at_call 63; exact UndA.calls (Nat.le_refl _) u (HPK.out _)); clear hK K))
  refine wpQuietF_nil ?_
  intro pb w6 hpb hbel hblk
  have z0 : w6.cell? ⟨pb, 0, none⟩ = some (.pointer none) := hblk.cell 0 _ rfl
  have z1 : w6.cell? ⟨pb, 1, none⟩ = some (.pointer none) := hblk.cell 1 _ rfl
  have y0 := hblk.frozen 0; have y1 := hblk.frozen 1
  have hltpb := hblk.lt
  obtain ⟨V, hV⟩ : ∃ V : World, V = (w6.setCell ⟨pb, 0, none⟩ (.pointer (some ⟨d.bb, 0, none⟩))).setCell ⟨pb, 1, none⟩ (.pointer (some ⟨d.sb, 0, none⟩)) := ⟨_, rfl⟩
  have hkV : Blk V pb #[.pointer (some ⟨d.bb, 0, none⟩), .pointer (some ⟨d.sb, 0, none⟩)] 143 := by
    rw [hV]; have := (hblk.set (o := 0) (.pointer (some ⟨d.bb, 0, none⟩))).set (o := 1) (.pointer (some ⟨d.sb, 0, none⟩)); simpa using this
  have hbV : Below X.heap.size X V := by rw [hV]; exact (hbel.setCell hpb _).setCell hpb _
  have HKV := hidden hkV; have HBV := hidden hbV; have HV := hidden hV
  clear k0 k1 k2 k3 hne hblk hbel hkV hbV o0 o1 o3 w0 g0 g1 hV
  go_simp
  go_upto_region 4 with fail
  rw [← HV.out]
  clear z0 z1 y0 y1
  have hLV := HLX.out.below HBV.out
  have hoV := HKX.out.sub HBV.out HKX.out.lt
  have hdV := hLV.at_ i d HD.out
  have o0 : V.cell? ⟨ob, 0, none⟩ = some (.int .i64 4) := hoV.cell 0 _ rfl
  have o3 : V.cell? ⟨ob, 3, none⟩ = some (.string S) := hoV.cell 3 _ rfl
  have p0 : V.cell? ⟨pb, 0, none⟩ = some (.pointer (some ⟨d.bb, 0, none⟩)) := HKV.out.cell 0 _ rfl
  have hff := forth_find S hdV.ps (by have := hdV.li.l; omega)
  rw [find_eq hdV.al S] at hff
  have HRF := hidden (fun (w' : World) (hr : RefSys w' d.sb d.sv d.ws d.nv d.nt) => ref_Find S w' hr (few_ws hdV.li hdV.al))
  obtain ⟨⟨⟨b1, b2, b3, b4, b5⟩, f⟩, hR⟩ : ∃ R, R = findI d.ws S := ⟨_, rfl⟩
  rw [← hR] at hff HRF
  simp only [Inf.val] at hff HRF
  have HFF := hidden hff
  have HLV := hidden hLV; have HOV := hidden hoV; have HDV := hidden hdV
  clear hLV hoV hdV hR hff
  go_wp2_with fail
  refine HFF.out.mono ?_
  rintro e w7 ⟨rfl, hb7⟩
  obtain ⟨x7, hx7⟩ : ∃ x, x = w7.heap.size := ⟨_, rfl⟩
  obtain ⟨Y, hY⟩ : ∃ Y : World, Y = w7.alloc (.cells #[.int .i64 b1, .int .i64 b2, .int .i64 b3, .int .i64 b4, .bool b5] 36 (0, 0)) := ⟨_, rfl⟩
  have hbY : Below V.heap.size V Y := by rw [hY]; exact hb7.alloc hb7.size _
  have hkY : Blk Y x7 #[.int .i64 b1, .int .i64 b2, .int .i64 b3, .int .i64 b4, .bool b5] 36 := by rw [hY, hx7]; exact blk_new w7 _ _
  have hoY := HOV.out.sub hbY HOV.out.lt
  have hpY := HKV.out.sub hbY HKV.out.lt
  have hdY := (HLV.out.below hbY).at_ i d HD.out
  have o3' : Y.cell? ⟨ob, 3, none⟩ = some (.string S) := hoY.cell 3 _ rfl
  have p1' : Y.cell? ⟨pb, 1, none⟩ = some (.pointer (some ⟨d.sb, 0, none⟩)) := hpY.cell 1 _ rfl
  have HRY := hidden (HRF.out Y hdY.rs); have HKY := hidden hkY; have HBY := hidden hbY; have HYY := hidden hY; have HX7 := hidden hx7
  clear HFF HRF hb7 hbY hkY hoY hpY hdY o0 o3 p0 hY hx7
  go_upto_region 13 with fail
  rw [← HYY.out, ← HX7.out]
  go_wp2_with fail
  refine HRY.out.mono ?_
  rintro e w8 ⟨rfl, hb8⟩
  obtain ⟨x8, hx8⟩ : ∃ x, x = w8.heap.size := ⟨_, rfl⟩
  obtain ⟨Z, hZ⟩ : ∃ Z : World, Z = w8.alloc (.cells #[.int .i64 b1, .int .i64 b2, .int .i64 b3, .int .i64 b4, .bool b5] 36 (0, 0)) := ⟨_, rfl⟩
  have hbZ : Below Y.heap.size Y Z := by rw [hZ]; exact hb8.alloc hb8.size _
  have hkZ : Blk Z x8 #[.int .i64 b1, .int .i64 b2, .int .i64 b3, .int .i64 b4, .bool b5] 36 := by rw [hZ, hx8]; exact blk_new w8 _ _
  have hkYZ := HKY.out.sub hbZ HKY.out.lt
  have s0 : Z.cell? ⟨x7, 0, none⟩ = some (.int .i64 b1) := hkYZ.cell 0 _ rfl
  have s1 : Z.cell? ⟨x7, 1, none⟩ = some (.int .i64 b2) := hkYZ.cell 1 _ rfl
  have s2 : Z.cell? ⟨x7, 2, none⟩ = some (.int .i64 b3) := hkYZ.cell 2 _ rfl
  have s3 : Z.cell? ⟨x7, 3, none⟩ = some (.int .i64 b4) := hkYZ.cell 3 _ rfl
  have s4 : Z.cell? ⟨x7, 4, none⟩ = some (.bool b5) := hkYZ.cell 4 _ rfl
  have t0 : Z.cell? ⟨x8, 0, none⟩ = some (.int .i64 b1) := hkZ.cell 0 _ rfl
  have t1 : Z.cell? ⟨x8, 1, none⟩ = some (.int .i64 b2) := hkZ.cell 1 _ rfl
  have t2 : Z.cell? ⟨x8, 2, none⟩ = some (.int .i64 b3) := hkZ.cell 2 _ rfl
  have t3 : Z.cell? ⟨x8, 3, none⟩ = some (.int .i64 b4) := hkZ.cell 3 _ rfl
  have t4 : Z.cell? ⟨x8, 4, none⟩ = some (.bool b5) := hkZ.cell 4 _ rfl
  have HBZ := hidden (HBY.out.trans (hbZ.mono HBY.out.size)); have HZZ := hidden hZ; have HX8 := hidden hx8
  clear hb8 hbZ hkZ hkYZ hZ hx8 HRY o3' p1'
  go_upto_region 14 with fail
  rw [← HZZ.out, ← HX8.out]
  go_wp2_with fail
  go_ret
  exact ⟨rfl, _, bk, G, ds, HLV.out.below HBZ.out, by simp, by omega, GLe.refl _, ((HBX.out.mono HL.out.le).trans (HBV.out.mono HLX.out.le)).trans (HBZ.out.mono HLV.out.le)⟩

end Go.Proofs.YtcphhbofjkenaaaGreatDoor
