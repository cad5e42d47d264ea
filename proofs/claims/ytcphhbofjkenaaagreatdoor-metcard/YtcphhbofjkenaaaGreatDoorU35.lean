import Derived.Test.YtcphhbofjkenaaaGreatDoorU34
namespace Go.Proofs.YtcphhbofjkenaaaGreatDoor
set_option maxRecDepth 100000
set_option maxHeartbeats 16000000
open Go Go.RowKit
set_option linter.unusedVariables false
set_option linter.unusedSimpArgs false
def TyOf (w : World) (b : Nat) (t : TypeId) : Prop := ∃ cs f, w.heap[b]? = some (.cells cs t f)
theorem TyOf.uniq {w : World} {b : Nat} {t t' : TypeId} (h : TyOf w b t) (h' : TyOf w b t') : t = t' := by
 obtain ⟨cs, f, h⟩ := h
 obtain ⟨cs', f', h'⟩ := h'
 rw [h] at h'
 simp at h'
 exact h'.2.1
theorem ty_blk {w : World} {b : Nat} {cs : Array Value} {t : TypeId} (h : Blk w b cs t) : TyOf w b t := ⟨cs, _, h⟩
theorem ty_own {w : World} {base : Nat} {e : TypeId} {size n k : Nat} {v : Value} {xs : List Value} (h : w.ownsRow base e size v n xs) (hk : v.ownBlock = some k) : TyOf w k e := by
 rcases h.2 with ⟨rfl, _⟩ | ⟨g, cap, cur, rfl, _, hg, _⟩
 ·cases hk
 ·simp [Value.ownBlock] at hk; subst hk; exact ⟨_, _, hg⟩
theorem ty_row {w : World} {b n : Nat} {t : TypeId} {f : Nat → Value} (h : w.rowIs b t n f) : TyOf w b t := by
 obtain ⟨c, hb, _⟩ := h
 exact ⟨_, _, hb⟩
section
variable {B : Nat} {w w' : World} {s : SX} {code : List Int} {u u' : MW} {js : List (JX × MS)}
theorem Fam.ty (h : Fam B w s code u js) {b : Nat} (hb : famS s js b) : TyOf w b 116 ∨ TyOf w b 118 ∨ TyOf w b 237 ∨ TyOf w b 3 := by
 rcases hb with (e | e | e) | ⟨i, a, hi, e | e | e⟩
 ·subst e; exact Or.inr (Or.inl (ty_blk h.wld.wblk))
 ·exact Or.inr (Or.inr (Or.inr (ty_own h.wld.vrow e)))
 ·exact Or.inr (Or.inr (Or.inr (ty_own h.wld.orow e)))
 ·subst e
  obtain ⟨cs, k, _⟩ := (h.each i a hi).mac
  exact Or.inl (ty_blk k)
 ·exact Or.inr (Or.inr (Or.inl (ty_own (h.each i a hi).lrow e)))
 ·exact Or.inr (Or.inr (Or.inr (ty_own (h.each i a hi).crow e)))
theorem Fam.not (h : Fam B w s code u js) {b : Nat} {t : TypeId} (hb : famS s js b) (ht : TyOf w b t) (h1 : t ≠ 116) (h2 : t ≠ 118) (h3 : t ≠ 237) (h4 : t ≠ 3) : False := by
 rcases h.ty hb with e | e | e | e
 ·exact h1 (ht.uniq e)
 ·exact h2 (ht.uniq e)
 ·exact h3 (ht.uniq e)
 ·exact h4 (ht.uniq e)
structure TAt (B : Nat) (w : World) (tb gn gr : Nat) (s : SX) (code : List Int) (u : MW) (ev : Value) (jbs : List Nat) (ts : List JT) (rk : List Nat) (js : List (JX × MS)) (bs : List Bool) (es : List EV) : Prop where
 fam : Fam B w s code u js
 blk : Blk w tb #[.pointer (some ⟨s.wp, 0, none⟩), .slice (some ⟨gn, 0, none⟩) jbs.length jbs.length, .slice (some ⟨gr, 0, none⟩) jbs.length jbs.length, ev] 139
 erow : ERow B w ev es
 nrow : w.rowIs gn 168 jbs.length (fun i => .pointer (some ⟨jbs.getD i 0, 0, none⟩))
 rrow : w.rowIs gr 168 jbs.length (fun i => .pointer (some ⟨jbs.getD (rk.getD i 0) 0, 0, none⟩))
 jobs : ∀ (i : Nat) (jb : Nat), jbs[i]? = some jb → ∃ a t b, js[i]? = some a ∧ ts[i]? = some t ∧ bs[i]? = some b ∧ Blk w jb (jobC a.1.mb t i b) 170 ∧ (B ≤ jb ∧ a.1.st = (t.st : Int) ∧ t.st ≤ code.length)
 nodup : ∀ (i k jb : Nat), jbs[i]? = some jb → jbs[k]? = some jb → i = k
 bt : B ≤ tb
 bg : B ≤ gn ∧ B ≤ gr
 len : js.length = jbs.length ∧ bs.length = jbs.length ∧ jbs.length ≤ 8
 rank : ∀ i, i < jbs.length → rk.getD i 0 < jbs.length
variable {tb gn gr : Nat} {ev : Value} {jbs : List Nat} {ts : List JT} {rk : List Nat} {bs : List Bool} {es : List EV}
theorem TAt.chg {S : Nat → Prop} (h : TAt B w tb gn gr s code u ev jbs ts rk js bs es) (hc : Chg S w w') (hf : ∀ b, famS s js b → ¬ S b) (ht : ¬ S tb) (he : ∀ k, ev.ownBlock = some k → ¬ S k) (hn : ¬ S gn) (hr : ¬ S gr) (hj : ∀ (i jb : Nat), jbs[i]? = some jb → ¬ S jb) (hB : ∀ b, S b → B ≤ b) : TAt B w' tb gn gr s code u ev jbs ts rk js bs es :=
 ⟨h.fam.chg hc hf hB, h.blk.chg hc ht, ownsRow_chg h.erow hc he, h.nrow.of_block (hc.block gn h.nrow.lt hn), h.rrow.of_block (hc.block gr h.rrow.lt hr),
  fun i jb hi => by
   obtain ⟨a, t, b, k1, k2, k3, k4, k5⟩ := h.jobs i jb hi
   exact ⟨a, t, b, k1, k2, k3, k4.chg hc (hj i jb hi), k5⟩, h.nodup, h.bt, h.bg, h.len, h.rank⟩
theorem TAt.noted {ev' : Value} {es' : List EV} (h : TAt B w tb gn gr s code u ev jbs ts rk js bs es) (hc : Chg (fun b => b = tb ∨ ev.ownBlock = some b) w w')
  (hb : Blk w' tb #[.pointer (some ⟨s.wp, 0, none⟩), .slice (some ⟨gn, 0, none⟩) jbs.length jbs.length, .slice (some ⟨gr, 0, none⟩) jbs.length jbs.length, ev'] 139) (hr : ERow B w' ev' es') : TAt B w' tb gn gr s code u ev' jbs ts rk js bs es' := by
 have key : ∀ {b : Nat} {t : TypeId}, TyOf w b t → t ≠ 139 → t ≠ 69 → ¬ (b = tb ∨ ev.ownBlock = some b) := fun {b t} ht h1 h2 e => by
  rcases e with e | e
  ·subst e; exact h1 (ht.uniq (ty_blk h.blk))
  ·exact h2 (ht.uniq (ty_own h.erow e))
 have hf : ∀ b, famS s js b → ¬ (b = tb ∨ ev.ownBlock = some b) := fun b hb => by
  rcases h.fam.ty hb with e | e | e | e
  ·exact key e (by decide) (by decide)
  ·exact key e (by decide) (by decide)
  ·exact key e (by decide) (by decide)
  ·exact key e (by decide) (by decide)
 have hB : ∀ b, (b = tb ∨ ev.ownBlock = some b) → B ≤ b := fun b e => by
  rcases e with e | e
  ·subst e; exact h.bt
  ·exact own_base h.erow e
 refine ⟨h.fam.chg hc hf hB, hb, hr, h.nrow.of_block (hc.block gn h.nrow.lt (key (ty_row h.nrow) (by decide) (by decide))), h.rrow.of_block (hc.block gr h.rrow.lt (key (ty_row h.rrow) (by decide) (by decide))), fun i jb hi => ?_, h.nodup, h.bt, h.bg, h.len, h.rank⟩
 obtain ⟨a, t, b, k1, k2, k3, k4, k5⟩ := h.jobs i jb hi
 exact ⟨a, t, b, k1, k2, k3, k4.chg hc (key (ty_blk k4) (by decide) (by decide)), k5⟩
theorem TAt.set_busy {i jb : Nat} (h : TAt B w tb gn gr s code u ev jbs ts rk js bs es) (hi : jbs[i]? = some jb) (v : Bool) : TAt B (w.setCell ⟨jb, 6, none⟩ (.bool v)) tb gn gr s code u ev jbs ts rk js (bs.set i v) es := by
 obtain ⟨a0, t0, b0, j1, j2, j3, j4, j5⟩ := h.jobs i jb hi
 have hc : Chg (fun b => b = jb) w (w.setCell ⟨jb, 6, none⟩ (.bool v)) := (Chg.refl (fun b => b = jb) w).setCell (p := ⟨jb, 6, none⟩) rfl _
 have key : ∀ {b : Nat} {t : TypeId}, TyOf w b t → t ≠ 170 → ¬ b = jb := fun {b t} ht h1 e => by
  subst e; exact h1 (ht.uniq (ty_blk j4))
 have hf : ∀ b, famS s js b → ¬ b = jb := fun b hb => by
  rcases h.fam.ty hb with e | e | e | e
  ·exact key e (by decide)
  ·exact key e (by decide)
  ·exact key e (by decide)
  ·exact key e (by decide)
 refine ⟨h.fam.chg hc hf (fun b e => by subst e; exact j5.1), h.blk.chg hc (key (ty_blk h.blk) (by decide)), ownsRow_chg h.erow hc (fun k hk => key (ty_own h.erow hk) (by decide)), h.nrow.of_block (hc.block gn h.nrow.lt (key (ty_row h.nrow) (by decide))), h.rrow.of_block (hc.block gr h.rrow.lt (key (ty_row h.rrow) (by decide))), fun k kb hk => ?_, h.nodup, h.bt, h.bg, ⟨h.len.1, by rw [List.length_set]; exact h.len.2.1, h.len.2.2⟩, h.rank⟩
 obtain ⟨a, t, b, k1, k2, k3, k4, k5⟩ := h.jobs k kb hk
 by_cases hki : k = i
 ·subst hki
  obtain rfl : kb = jb := Option.some.inj (hk.symm.trans hi)
  have hlt := (List.getElem?_eq_some_iff.1 k3).1
  refine ⟨a, t, v, k1, k2, by rw [List.getElem?_set_self hlt], ?_, k5⟩
  have := k4.set (o := 6) (.bool v)
  simpa [jobC] using this
 ·refine ⟨a, t, b, k1, k2, by rw [List.getElem?_set_ne (fun e => hki e.symm)]; exact k3, k4.chg hc (fun e => ?_), k5⟩
  subst e
  exact hki (h.nodup k i kb hk hi)
theorem TAt.stepped {i : Nat} {a : JX × MS} {m' : MS} {y : RX} (h : TAt B w tb gn gr s code u ev jbs ts rk js bs es) (hi : js[i]? = some a) (hn : RN B w (a.1.rx s) code m' u' w' y) :
  TAt B w' tb gn gr ⟨s.wp, s.rv, s.vv, y.ov, y.iv⟩ code u' ev jbs ts rk (js.set i (⟨a.1.mb, a.1.st, y.lv, y.cv⟩, m')) bs es ∧ Chg (famS s js) w w' := by
 obtain ⟨f1, f2, hc⟩ := h.fam.step hi hn
 have key : ∀ {b : Nat} {t : TypeId}, TyOf w b t → t ≠ 116 → t ≠ 118 → t ≠ 237 → t ≠ 3 → ¬ famS s js b := fun ht h1 h2 h3 h4 hb => h.fam.not hb ht h1 h2 h3 h4
 have hlt := (List.getElem?_eq_some_iff.1 hi).1
 refine ⟨⟨f1, h.blk.chg hc (key (ty_blk h.blk) (by decide) (by decide) (by decide) (by decide)), ownsRow_chg h.erow hc (fun k hk => key (ty_own h.erow hk) (by decide) (by decide) (by decide) (by decide)), h.nrow.of_block (hc.block gn h.nrow.lt (key (ty_row h.nrow) (by decide) (by decide) (by decide) (by decide))), h.rrow.of_block (hc.block gr h.rrow.lt (key (ty_row h.rrow) (by decide) (by decide) (by decide) (by decide))), fun k kb hk => ?_, h.nodup, h.bt, h.bg, ⟨by rw [List.length_set]; exact h.len.1, h.len.2⟩, h.rank⟩, hc⟩
 obtain ⟨c, t, b, k1, k2, k3, k4, k5⟩ := h.jobs k kb hk
 have k4' := k4.chg hc (key (ty_blk k4) (by decide) (by decide) (by decide) (by decide))
 by_cases hki : k = i
 ·subst hki
  obtain rfl : c = a := Option.some.inj (k1.symm.trans hi)
  exact ⟨(⟨c.1.mb, c.1.st, y.lv, y.cv⟩, m'), t, b, by rw [List.getElem?_set_self hlt], k2, k3, k4', k5⟩
 ·exact ⟨c, t, b, by rw [List.getElem?_set_ne (fun e => hki e.symm)]; exact k1, k2, k3, k4', k5⟩
theorem TAt.base (h : TAt B w tb gn gr s code u ev jbs ts rk js bs es) : B ≤ w.heap.size := by have := h.blk.lt; have := h.bt; omega
theorem TAt.toBelow {S : Nat → Prop} (h : TAt B w tb gn gr s code u ev jbs ts rk js bs es) (hc : Chg S w w') (hB : ∀ b, S b → B ≤ b) : Below B w w' := hc.toBelow h.base (fun b hb e => by have := hB b e; omega)
theorem TAt.noteB (h : TAt B w tb gn gr s code u ev jbs ts rk js bs es) (hc : Chg (fun b => b = tb ∨ ev.ownBlock = some b) w w') : Below B w w' := h.toBelow hc (fun b e => by
 rcases e with e | e
 ·subst e; exact h.bt
 ·exact own_base h.erow e)
end
def puts (n tick : Int) (l : List Int) : List EV := l.map fun c => ⟨3, n, tick, c⟩
section
variable {B : Nat} {w : World} {s : SX} {code : List Int} {u : MW} {js : List (JX × MS)} {tb gn gr : Nat} {ev : Value} {jbs : List Nat} {ts : List JT} {rk : List Nat} {bs : List Bool} {es : List EV}
theorem TAt.note (h : TAt B w tb gn gr s code u ev jbs ts rk js bs es) {i jb : Nat} (hi : jbs[i]? = some jb) (kind tick val : Int) (hl : es.length ≤ 90000000) :
  Calls Tryz.prog 84 #[.pointer (some ⟨tb, 0, none⟩), .int .i64 kind, .pointer (some ⟨jb, 0, none⟩), .int .i64 tick, .int .i64 val] w fun e w' => e = .returned (.tuple #[]) ∧ ∃ ev', TAt B w' tb gn gr s code u ev' jbs ts rk js bs (es ++ [⟨kind, i, tick, val⟩]) ∧ Lc w ev ev' ∧ Chg (fun b => b = tb ∨ ev.ownBlock = some b) w w' := by
 obtain ⟨a, t, b, k1, k2, k3, k4, k5⟩ := h.jobs i jb hi
 refine (turns_note kind tick val h.blk h.erow k4 hl h.base).mono ?_
 rintro e w' ⟨rfl, ⟨ev', r1, r2, r3⟩, hc⟩
 exact ⟨rfl, ev', h.noted hc r1 r2, r3, hc⟩
theorem own_slice (oa : Option Addr) (n oc : Nat) : (Value.slice oa n oc).ownBlock = (Value.slice oa 0 oc).ownBlock := by
 cases oa <;> rfl
theorem TAt.flush {oa : Option Addr} {n oc : Nat} (h : TAt B w tb gn gr s code u ev jbs ts rk js bs es) (hov : s.ov = .slice oa n oc) :
  TAt B (w.setCell ⟨s.wp, 1, none⟩ (.slice oa 0 oc)) tb gn gr ⟨s.wp, s.rv, s.vv, .slice oa 0 oc, s.iv⟩ code ⟨u.vars, [], u.ins⟩ ev jbs ts rk js bs es := by
 obtain ⟨wp, rv, vv, ov, iv⟩ := s
 simp only at hov
 subst hov
 have hw := h.fam.wld
 have hc : Chg (fun b => b = wp) w (w.setCell ⟨wp, 1, none⟩ (.slice oa 0 oc)) := (Chg.refl (fun b => b = wp) w).setCell (p := ⟨wp, 1, none⟩) rfl _
 have key : ∀ {b : Nat} {t : TypeId}, TyOf w b t → t ≠ 118 → ¬ b = wp := fun {b t} ht h1 e => by
  subst e; exact h1 (ht.uniq (ty_blk hw.wblk))
 have hB : Below B w (w.setCell ⟨wp, 1, none⟩ (.slice oa 0 oc)) := hc.toBelow h.base (fun b hb e => by have := hw.bw; simp only at this; omega)
 have hor : IRow B (w.setCell ⟨wp, 1, none⟩ (.slice oa 0 oc)) (.slice oa 0 oc) [] := by
  have ho := ownsRow_chg hw.orow hc (fun k hk => key (ty_own hw.orow hk) (by decide))
  rcases ho.2 with ⟨e, _⟩ | ⟨g, cap, cur, e, k1, k2, k3, k4, k5, k6⟩
  ·obtain ⟨rfl, rfl, rfl⟩ : oa = none ∧ n = 0 ∧ oc = 0 := by simpa using e
   exact World.ownsRow_nil _ _ _ _
  ·obtain ⟨rfl, rfl, rfl⟩ : oa = some ⟨g, 0, none⟩ ∧ n = u.outs.length ∧ oc = cap := by simpa using e
   exact ⟨rfl, Or.inr ⟨g, oc, cur, rfl, k1, k2, Nat.zero_le _, k4, k5, by simp⟩⟩
 have hW : ∀ b, (SX.mk wp rv vv (.slice oa 0 oc) iv).W b → (SX.mk wp rv vv (.slice oa n oc) iv).W b := by
  rintro b (e | e | e)
  ·exact Or.inl e
  ·exact Or.inr (Or.inl e)
  ·exact Or.inr (Or.inr (by rw [own_slice]; exact e))
 have hJ : ∀ (i : Nat) (c : JX × MS), js[i]? = some c → ∀ b, c.1.J b → ¬ b = wp := fun i c hi b hb e => h.fam.sep i c hi b hb (Or.inl e)
 obtain ⟨o1, o2, o3, o4⟩ := hw.len
 refine ⟨⟨⟨?_, ownsRow_chg hw.vrow hc (fun k hk => key (ty_own hw.vrow hk) (by decide)), hor, hw.ins.below hB, hw.cod.below hB, fun k hk => by rw [← own_slice oa n oc]; exact hw.sepv k hk, hw.bw, by simp, o2, o3, o4⟩, fun i c hi => (h.fam.each i c hi).chg hc (hJ i c hi), h.fam.apart, fun i c hi b hb e => h.fam.sep i c hi b hb (hW b e)⟩, h.blk.chg hc (key (ty_blk h.blk) (by decide)), ownsRow_chg h.erow hc (fun k hk => key (ty_own h.erow hk) (by decide)), h.nrow.of_block (hc.block gn h.nrow.lt (key (ty_row h.nrow) (by decide))), h.rrow.of_block (hc.block gr h.rrow.lt (key (ty_row h.rrow) (by decide))), fun i jb hi => ?_, h.nodup, h.bt, h.bg, h.len, h.rank⟩
 ·have := hw.wblk.set (o := 1) (.slice oa 0 oc)
  simpa using this
 ·obtain ⟨a, t, b, k1, k2, k3, k4, k5⟩ := h.jobs i jb hi
  exact ⟨a, t, b, k1, k2, k3, k4.chg hc (key (ty_blk k4) (by decide)), k5⟩
end
section
variable {B : Nat} {w : World} {s : SX} {code : List Int} {u : MW} {js : List (JX × MS)} {tb gn gr : Nat} {ev : Value} {jbs : List Nat} {ts : List JT} {rk : List Nat} {bs : List Bool} {es : List EV}
def StepOfPost (B : Nat) (tb gn gr : Nat) (code : List Int) (jbs : List Nat) (ts : List JT) (rk : List Nat) (js : List (JX × MS)) (bs : List Bool) (es : List EV) (i : Nat) (tick E : Int) (m' : MS) (u' : MW) (w : World) (e : Ending) (w' : World) : Prop :=
 e = .returned (.tuple #[]) ∧ Below B w w' ∧ ∃ s' ev' j', TAt B w' tb gn gr s' code ⟨u'.vars, [], u'.ins⟩ ev' jbs ts rk (js.set i (j', m')) (if E ≠ 4 then bs.set i false else bs) (es ++ puts i tick u'.outs ++ (if E ≠ 4 then [⟨2, i, tick, E⟩] else []))
theorem turns_stepOf {i jb : Nat} {a : JX × MS} (h : TAt B w tb gn gr s code u ev jbs ts rk js bs es) (hi : jbs[i]? = some jb) (ha : js[i]? = some a) (ht : Tab w) (hG : 3 ≤ B) (hok : StepOk code a.2 u) (tick : Int) (hl : es.length ≤ 80000000) (ho : (stepM code a.2 u).2.2.outs.length ≤ 100) :
  Calls Tryz.prog 85 #[.pointer (some ⟨tb, 0, none⟩), .pointer (some ⟨jb, 0, none⟩), .int .i64 tick] w fun e w' => StepOfPost B tb gn gr code jbs ts rk js bs es i tick (stepM code a.2 u).1 (stepM code a.2 u).2.1 (stepM code a.2 u).2.2 w e w' := by
 obtain ⟨E, hE⟩ : ∃ E, E = (stepM code a.2 u).1 := ⟨_, rfl⟩
 obtain ⟨m', hm'⟩ : ∃ m', m' = (stepM code a.2 u).2.1 := ⟨_, rfl⟩
 obtain ⟨u', hu'⟩ : ∃ u', u' = (stepM code a.2 u).2.2 := ⟨_, rfl⟩
 obtain ⟨a0, t0, b0, k1, k2, k3, k4, k5⟩ := h.jobs i jb hi
 obtain rfl : a0 = a := Option.some.inj (k1.symm.trans ha)
 have hst := mach_step (h.fam.rAt ha) ht hok
 rw [← hE, ← hm', ← hu'] at hst ⊢
 rw [← hu'] at ho
 have c0 : w.cell? ⟨jb, 0, none⟩ = some (.pointer (some ⟨a0.1.mb, 0, none⟩)) := k4.cell 0 _ rfl
 have hjl := k4.lt
 have HT := hidden h; have HST : Hid (Calls Tryz.prog 74 #[.pointer (some ⟨a0.1.mb, 0, none⟩)] w fun e w' => e = .returned (.int .i64 E) ∧ RNext B w (a0.1.rx s) code m' u' w') := hidden hst
 clear hst h hE hm' hu' hok k4
 go_enter Tryz.func85, Tryz.ntmps85
 go_wp2_with fail
 refine HST.out.mono ?_
 rintro e w1 ⟨rfl, y, hn⟩
 obtain ⟨hT1, hc1⟩ := HT.out.stepped ha hn
 have HB1 := hidden (HT.out.toBelow hc1 (fun b hb => HT.out.fam.base hb))
 obtain ⟨oa, oc, hov, hoc, _⟩ := row_shape hT1.fam.wld.orow
 obtain ⟨n, hnn⟩ : ∃ n, n = u'.outs.length := ⟨_, rfl⟩
 obtain ⟨s1, hs1⟩ : ∃ s1 : SX, s1 = ⟨s.wp, s.rv, s.vv, y.ov, y.iv⟩ := ⟨_, rfl⟩
 obtain ⟨j1, hj1⟩ : ∃ j1 : JX, j1 = ⟨a0.1.mb, a0.1.st, y.lv, y.cv⟩ := ⟨_, rfl⟩
 rw [← hs1, ← hj1] at hT1
 have hwp : s1.wp = s.wp := by rw [hs1]
 have hso : s1.ov = .slice oa n oc := by rw [hs1, hnn]; exact hov
 have q0 : w1.cell? ⟨tb, 0, none⟩ = some (.pointer (some ⟨s1.wp, 0, none⟩)) := hT1.blk.cell 0 _ rfl
 have q1 : w1.cell? ⟨s1.wp, 1, none⟩ = some (.slice oa n oc) := by rw [← hso]; exact hT1.fam.wld.wblk.cell 1 _ rfl
 have hn100 : n ≤ 100 := by omega
 have htl := hT1.blk.lt
 have hwl := hT1.fam.wld.wblk.lt
 obtain ⟨wp, hwpp⟩ : ∃ wp, wp = s1.wp := ⟨_, rfl⟩
 rw [← hwpp] at q0 q1 hwl
 have HT1 := hidden hT1; have HNN := hidden hnn; have HSO := hidden hso; have HWP := hidden hwpp
 clear hT1 hc1 hn hov hoc hnn hs1 hj1 hso hwp hwpp HST HT c0
 go_wp2_with fail
 go_loopw [22] (fun k wr => ∃ (q : Nat) (ev1 : Value), q ≤ n ∧ k = .int .i64 q ∧ Hid (TAt B wr tb gn gr s1 code u' ev1 jbs ts rk (js.set i (j1, m')) bs (es ++ puts i tick (u'.outs.take q))) ∧ Hid (Below B w wr)) (fun k _ => n - (intOf k).toNat)
 case atStart => exact ⟨0, ev, Nat.zero_le _, rfl, hidden (by simpa [puts] using HT1.out), HB1⟩
 case round =>
  clear HT1 HB1 q0 q1 htl hwl
  obtain ⟨q, ev1, hq, rfl, HQ, HBQ⟩ := hrel
  by_cases hlt : q < n
  ·have hqi : (q : Int) < (n : Int) := by omega
   have hrow := HQ.out.fam.wld.orow
   rw [HSO.out] at hrow
   obtain ⟨c, hc⟩ : ∃ c, u'.outs[q]? = some c := ⟨_, List.getElem?_eq_getElem (by rw [← HNN.out]; exact hlt)⟩
   obtain ⟨g, cap, hv, _, hg, _, _, hcc⟩ := row_cells hrow (by have := HNN.out; omega)
   simp only [Value.slice.injEq] at hv
   obtain ⟨rfl, hnx, rfl⟩ := hv
   have hcell : wr.cell? ⟨g, q, none⟩ = some (.int .i64 c) := hcc q _ (by rw [ints, List.getElem?_map, hc]; rfl)
   have HNO := hidden (HQ.out.note hi 3 tick c (by rw [List.length_append, puts, List.length_map, List.length_take]; have := HNN.out; omega))
   have hpu : es ++ puts i tick (u'.outs.take q) ++ [⟨3, i, tick, c⟩] = es ++ puts i tick (u'.outs.take (q + 1)) := by
    rw [List.append_assoc, List.take_add_one, hc]; simp [puts]
   have HPU := hidden hpu
   clear hrow hcc hnx hc hpu
   go_wp2_with fail
   refine HNO.out.mono ?_
   rintro e w3 ⟨rfl, ev2, hT3, _, hc3⟩
   have HB3 := hidden (HBQ.out.trans (HQ.out.noteB hc3))
   rw [HPU.out] at hT3
   have HT3 := hidden hT3
   clear hT3 hc3 HNO hcell
   go_wp2_with fail
   go_roundw
   case rel => exact ⟨q + 1, ev2, by omega, by go_num, HT3, HB3⟩
   case measure => simp [intOf]; omega
  ·obtain rfl : q = n := by omega
   have hji : ¬ (q : Int) < (q : Int) := by omega
   have q0 : wr.cell? ⟨tb, 0, none⟩ = some (.pointer (some ⟨wp, 0, none⟩)) := by rw [HWP.out]; exact HQ.out.blk.cell 0 _ rfl
   have q1 : wr.cell? ⟨wp, 1, none⟩ = some (.slice oa q oc) := by rw [← HSO.out, HWP.out]; exact HQ.out.fam.wld.wblk.cell 1 _ rfl
   have f1 : wr.frozen? ⟨wp, 1, none⟩ = false := by rw [HWP.out]; exact HQ.out.fam.wld.wblk.frozen 1
   have htl := HQ.out.blk.lt
   have hwl : wp < wr.heap.size := by rw [HWP.out]; exact HQ.out.fam.wld.wblk.lt
   go_upto_region 6 with fail
   go_still_tail 14, (by kernel_rfl)
   go_upto_region 7 with fail
   have hT6 := TAt.flush (w := wr) HQ.out HSO.out
   rw [← HWP.out, List.take_of_length_le (by rw [← HNN.out]; exact Nat.le_refl _)] at hT6
   obtain ⟨V, hV⟩ : ∃ V : World, V = (wr.setCell ⟨wp, 1, none⟩ (.slice oa 0 oc)).drew := ⟨_, rfl⟩
   have hT7 := hT6.chg (w' := V) (S := fun _ => False) (by rw [hV]; exact (Chg.refl _ _).drew) (fun _ _ => id) id (fun _ _ => id) id id (fun _ _ _ => id) (fun _ e => e.elim)
   have HBV : Hid (Below B w V) := hidden (HBQ.out.trans (HQ.out.toBelow (S := fun b => b = wp) (by rw [hV]; exact ((Chg.refl (fun b => b = wp) wr).setCell (p := ⟨wp, 1, none⟩) rfl _).drew) (fun b e => by rw [e, HWP.out]; exact HQ.out.fam.wld.bw)))
   rw [← hV]
   obtain ⟨a7, t7, b7, g1, g2, g3, g4, g5⟩ := hT7.jobs i jb hi
   have d6 : V.cell? ⟨jb, 6, none⟩ = some (.bool b7) := g4.cell 6 _ rfl
   have e6 := g4.frozen 6
   have hjV := g4.lt
   have HT7 := hidden hT7; have HJB := hidden g5.1
   have HPL : Hid ((es ++ puts i tick u'.outs).length ≤ 90000000) := hidden (by rw [List.length_append, puts, List.length_map]; omega)
   clear hT6 hT7 hV g1 g2 g3 g4 g5 q0 q1 f1 HQ
   by_cases hE4 : E = 4
   ·have x4 : (E != 4) = false := by simp [hE4]
    have HE4 := hidden hE4
    clear hE4
    go_wp2_with fail
    go_end0
    have h4 := HE4.out
    refine (show StepOfPost B tb gn gr code jbs ts rk js bs es i tick E m' u' w _ _ from ⟨rfl, HBV.out, ⟨wp, s1.rv, s1.vv, .slice oa 0 oc, s1.iv⟩, ev1, j1, ?_⟩)
    rw [if_neg (fun h => h h4), if_neg (fun h => h h4), List.append_nil]
    exact HT7.out
   ·have x4 : (E != 4) = true := by simpa using hE4
    have HE4 := hidden hE4
    clear hE4
    have hT8 := HT7.out.set_busy hi false
    obtain ⟨Z, hZ⟩ : ∃ Z : World, Z = V.setCell ⟨jb, 6, none⟩ (.bool false) := ⟨_, rfl⟩
    rw [← hZ] at hT8
    have HBZ : Hid (Below B w Z) := hidden (HBV.out.trans (HT7.out.toBelow (S := fun b => b = jb) (by rw [hZ]; exact (Chg.refl (fun b => b = jb) V).setCell (p := ⟨jb, 6, none⟩) rfl _) (fun b e => by rw [e]; exact HJB.out)))
    have HNO := hidden (hT8.note hi 2 tick E HPL.out)
    have HZ := hidden hZ; have HT8 := hidden hT8
    clear hZ hT8
    go_wp2_with fail
    rw [← HZ.out]
    refine HNO.out.mono ?_
    rintro e w9 ⟨rfl, ev9, hT9, _, hc9⟩
    have HT9 := hidden hT9; have HB9 := hidden (HBZ.out.trans (HT8.out.noteB hc9))
    clear hT9 HNO hc9
    go_wp2_with fail
    go_end0
    have h4 := HE4.out
    refine (show StepOfPost B tb gn gr code jbs ts rk js bs es i tick E m' u' w _ _ from ⟨rfl, HB9.out, ⟨wp, s1.rv, s1.vv, .slice oa 0 oc, s1.iv⟩, ev9, j1, ?_⟩)
    rw [if_pos h4, if_pos h4]
    exact HT9.out
end
def turnOf (rk : List Nat) (bs : List Bool) : Nat → Nat → Option Nat
 | 0, _ => none
 | f + 1, k => if bs.getD (rk.getD k 0) false = true then some (rk.getD k 0) else turnOf rk bs f (k + 1)
section
variable {B : Nat} {w : World} {s : SX} {code : List Int} {u : MW} {js : List (JX × MS)} {tb gn gr : Nat} {ev : Value} {jbs : List Nat} {ts : List JT} {rk : List Nat} {bs : List Bool} {es : List EV}
def StepPostT (B : Nat) (tb gn gr : Nat) (s : SX) (code : List Int) (u : MW) (ev : Value) (jbs : List Nat) (ts : List JT) (rk : List Nat) (js : List (JX × MS)) (bs : List Bool) (es : List EV) (tick : Int) (q : Option Nat) (w : World) (e : Ending) (w' : World) : Prop :=
 match q with
 | none => e = .returned (.tuple #[]) ∧ w' = w ∧ TAt B w' tb gn gr s code u ev jbs ts rk js bs es
 | some i => ∃ a, js[i]? = some a ∧ StepOfPost B tb gn gr code jbs ts rk js bs es i tick (stepM code a.2 u).1 (stepM code a.2 u).2.1 (stepM code a.2 u).2.2 w e w'
theorem turns_step (h : TAt B w tb gn gr s code u ev jbs ts rk js bs es) (ht : Tab w) (hG : 3 ≤ B) (tick : Int) (hl : es.length ≤ 80000000) (hok : ∀ (i : Nat) (a : JX × MS), js[i]? = some a → bs.getD i false = true → StepOk code a.2 u ∧ (stepM code a.2 u).2.2.outs.length ≤ 100) :
  Calls Tryz.prog 59 #[.pointer (some ⟨tb, 0, none⟩), .int .i64 tick] w fun e w' => StepPostT B tb gn gr s code u ev jbs ts rk js bs es tick (turnOf rk bs jbs.length 0) w e w' := by
 obtain ⟨Q, hQ⟩ : ∃ Q, Q = turnOf rk bs jbs.length 0 := ⟨_, rfl⟩
 rw [← hQ]
 obtain ⟨n, hn⟩ : ∃ n, n = jbs.length := ⟨_, rfl⟩
 have c2 : w.cell? ⟨tb, 2, none⟩ = some (.slice (some ⟨gr, 0, none⟩) n n) := by rw [hn]; exact h.blk.cell 2 _ rfl
 have htl := h.blk.lt
 have hn8 : n ≤ 8 := by rw [hn]; exact h.len.2.2
 have HR : Hid (∀ k, k < n → w.cell? ⟨gr, k, none⟩ = some (.pointer (some ⟨jbs.getD (rk.getD k 0) 0, 0, none⟩)) ∧ gr < w.heap.size) := hidden fun k hk => ⟨h.rrow.cell (by rw [← hn]; exact hk), h.rrow.lt⟩
 have HT := hidden h; have HTab := hidden ht; have HOK := hidden hok; have HN := hidden hn
 have HQ0 : Hid (Q = turnOf rk bs n 0) := hidden (by rw [hn]; exact hQ)
 clear h ht hok hn hQ
 go_enter Tryz.func59, Tryz.ntmps59
 go_wp2_with fail
 go_loopw [11] (fun k wr => ∃ q : Nat, q ≤ n ∧ k = .int .i64 q ∧ wr = w ∧ Hid (Q = turnOf rk bs (n - q) q)) (fun k _ => n - (intOf k).toNat)
 case atStart => exact ⟨0, Nat.zero_le _, rfl, rfl, HQ0⟩
 case round =>
  clear HQ0 c2
  obtain ⟨q, hq, rfl, rfl, HQ⟩ := hrel
  by_cases hlt : q < n
  ·have hqi : (q : Int) < (n : Int) := by omega
   obtain ⟨cr, hgl⟩ := HR.out q hlt
   obtain ⟨i, hi⟩ : ∃ i, i = rk.getD q 0 := ⟨_, rfl⟩
   have hil : i < jbs.length := by rw [hi]; exact HT.out.rank q (by rw [← HN.out]; exact hlt)
   obtain ⟨jb, hjb⟩ : ∃ jb, jb = jbs.getD i 0 := ⟨_, rfl⟩
   have hji : jbs[i]? = some jb := by rw [hjb]; simp [hil]
   rw [← hi, ← hjb] at cr
   obtain ⟨a, t, b, k1, k2, k3, k4, k5⟩ := HT.out.jobs i jb hji
   have c6 : wr.cell? ⟨jb, 6, none⟩ = some (.bool b) := k4.cell 6 _ rfl
   have hjl := k4.lt
   have hbg : bs.getD i false = b := by rw [List.getD_eq_getElem?_getD, k3]; rfl
   have hst : Q = if b = true then some i else turnOf rk bs (n - (q + 1)) (q + 1) := by
    rw [HQ.out, show n - q = (n - (q + 1)) + 1 by omega, turnOf, ← hi, hbg]
   have HS := hidden hst
   cases b with
   | true =>
    have HSO := hidden (turns_stepOf HT.out hji k1 HTab.out hG (HOK.out i a k1 hbg).1 tick hl (HOK.out i a k1 hbg).2)
    have HK1 := hidden k1
    clear hst hi hjb hji k1 k2 k3 k4 k5 hbg hil
    go_wp2_with fail
    refine HSO.out.mono ?_
    intro e w5 hp
    have HP := hidden hp
    have he : e = .returned (.tuple #[]) := hp.1
    subst he
    clear hp
    go_wp2_with fail
    refine bodyPost_ret (results_none rfl _ _ _) rfl ?_
    have e : Q = some i := by rw [HS.out]; simp
    rw [e]
    exact (show ∃ a, _ ∧ _ from ⟨a, HK1.out, HP.out⟩)
   | false =>
    have HS2 : Hid (Q = turnOf rk bs (n - (q + 1)) (q + 1)) := hidden (by rw [hst]; simp)
    clear hst hi hjb hji k1 k2 k3 k4 k5 hbg hil HS
    go_wp2_with fail
    go_roundw
    case rel => exact ⟨q + 1, by omega, by go_num, by first | trivial | rfl, HS2⟩
    case measure => simp [intOf]; omega
  ·obtain rfl : q = n := by omega
   have hji : ¬ (q : Int) < (q : Int) := by omega
   go_wp2_with fail
   go_end0
   have e : Q = none := by rw [HQ.out, Nat.sub_self]; rfl
   rw [e]
   exact (show _ ∧ _ ∧ _ from ⟨rfl, rfl, HT.out⟩)
end
def beginM (p : Nat) : MS := ⟨[], [], [], p⟩
structure PS where
 ms : List MS
 bs : List Bool
 u : MW
 es : List EV
def relO (t : JT) (k : Nat) (tick : Int) (p : PS) : PS := if dueP t tick = true then ⟨p.ms.set k (beginM t.st), p.bs.set k true, p.u, p.es ++ [⟨1, k, tick, 0⟩]⟩ else p
def relP (ts : List JT) (tick : Int) : Nat → Nat → PS → PS
 | 0, _, p => p
 | f + 1, k, p => match ts[k]? with
  | none => relP ts tick f (k + 1) p
  | some t => relP ts tick f (k + 1) (relO t k tick p)
def turnQ (code : List Int) (i : Nat) (tick : Int) (p : PS) : PS :=
 match p.ms[i]? with
 | none => p
 | some m => ⟨p.ms.set i (stepM code m p.u).2.1, if (stepM code m p.u).1 ≠ 4 then p.bs.set i false else p.bs, ⟨(stepM code m p.u).2.2.vars, [], (stepM code m p.u).2.2.ins⟩, p.es ++ puts i tick (stepM code m p.u).2.2.outs ++ (if (stepM code m p.u).1 ≠ 4 then [⟨2, i, tick, (stepM code m p.u).1⟩] else [])⟩
def turnP (code : List Int) (rk : List Nat) (n : Nat) (tick : Int) (p : PS) : PS :=
 match turnOf rk p.bs n 0 with
 | none => p
 | some i => turnQ code i tick p
def tickP (code : List Int) (ts : List JT) (rk : List Nat) (n : Nat) (tick : Int) (p : PS) : PS := turnP code rk n tick (relP ts tick n 0 p)
def simP (code : List Int) (ts : List JT) (rk : List Nat) (n : Nat) : Nat → PS → PS
 | 0, p => p
 | k + 1, p => tickP code ts rk n k (simP code ts rk n k p)
theorem turn_busy {rk : List Nat} {bs : List Bool} : ∀ {f k i : Nat}, turnOf rk bs f k = some i → bs.getD i false = true
 | 0, _, _, h => by cases h
 | f + 1, k, i, h => by
  unfold turnOf at h
  split at h
  ·rename_i hb
   cases h
   exact hb
  ·exact turn_busy h
def TOk (es : List PE) (code : List Int) (t : JT) : Prop := ∃ (y : RW) (q : Nat), CList es code false y.its t.st q ∧ code[q]? = some 34 ∧ t.st < code.length
structure SimI (es : List PE) (code : List Int) (n nv k L : Nat) (p : PS) : Prop where
 l1 : p.ms.length = n
 l2 : p.bs.length = n
 uo : p.u.outs = []
 uv : p.u.vars.length = nv
 vc : ∀ a ∈ p.u.vars, Cell a
 ic : ∀ a ∈ p.u.ins, Cell a
 le : p.es.length ≤ L
 job : ∀ (i : Nat) (m : MS), p.ms[i]? = some m → p.bs.getD i false = true → ∃ fs, Sim es code k fs m p.u
section
variable {es : List PE} {code : List Int} {ws : List RW} {n nv k L : Nat} {p : PS} {ts : List JT} {rk : List Nat}
theorem SimI.more {k' L' : Nat} (h : SimI es code n nv k L p) (hk : k ≤ k') (hL : L ≤ L') : SimI es code n nv k' L' p :=
 ⟨h.l1, h.l2, h.uo, h.uv, h.vc, h.ic, Nat.le_trans h.le hL, fun i m hm hb => by
  obtain ⟨fs, s⟩ := h.job i m hm hb
  exact ⟨fs, s.rel, s.wl, Nat.le_trans s.l1 hk, Nat.le_trans s.l2 hk, Nat.le_trans s.l3 hk, Nat.le_trans s.l4 (by omega)⟩⟩
theorem sim_beg {t : JT} (h : TOk es code t) {u : MW} (h1 : u.outs = []) (h2 : ∀ a ∈ u.vars, Cell a) (h3 : ∀ a ∈ u.ins, Cell a) (k : Nat) : ∃ fs, Sim es code k fs (beginM t.st) u := by
 obtain ⟨y, q, c1, c2, c3⟩ := h
 exact ⟨[⟨y.its, 0, 3, 0, 0⟩], ⟨false, .last _ t.st q ⟨rfl, c1.most (by omega)⟩ (by simpa using c1) c2⟩, ⟨(fun a ha => by cases ha), h2, h3, Nat.zero_le _⟩, Nat.zero_le _, Nat.zero_le _, by rw [h1]; exact Nat.zero_le _, by simp⟩
theorem SimI.rel1 {t : JT} (h : SimI es code n nv k L p) (ht : TOk es code t) (i : Nat) (tick : Int) : SimI es code n nv k (L + 1) (relO t i tick p) := by
 unfold relO
 by_cases hd : dueP t tick = true
 ·rw [if_pos hd]
  refine ⟨by rw [List.length_set]; exact h.l1, by rw [List.length_set]; exact h.l2, h.uo, h.uv, h.vc, h.ic, by have := h.le; simp; omega, fun j m hm hb => ?_⟩
  simp only at hm hb
  by_cases e : j = i
  ·subst e
   by_cases hl : j < p.ms.length
   ·rw [List.getElem?_set_self hl] at hm
    obtain rfl := Option.some.inj hm
    exact sim_beg ht h.uo h.vc h.ic k
   ·rw [List.getElem?_eq_none (by rw [List.length_set]; omega)] at hm; cases hm
  ·rw [List.getElem?_set_ne (fun h => e h.symm)] at hm
   rw [List.getD_eq_getElem?_getD, List.getElem?_set_ne (fun h => e h.symm), ← List.getD_eq_getElem?_getD] at hb
   exact h.job j m hm hb
 ·rw [if_neg hd]; exact h.more (Nat.le_refl _) (by omega)
theorem SimI.rel (ht : ∀ t ∈ ts, TOk es code t) (tick : Int) : ∀ (f q L : Nat) (p : PS), SimI es code n nv k L p → SimI es code n nv k (L + f) (relP ts tick f q p)
 | 0, _, _, _, h => h
 | f + 1, q, L, p, h => by
  unfold relP
  split
  ·exact (SimI.rel ht tick f (q + 1) L p h).more (Nat.le_refl _) (by omega)
  ·rename_i t hq
   have := SimI.rel ht tick f (q + 1) (L + 1) _ (h.rel1 (ht t (List.mem_of_getElem? hq)) q tick)
   rwa [show L + 1 + f = L + (f + 1) by omega] at this
theorem SimI.ok (hc : Coded es code ws) (ha : Alike es ws) (h : SimI es code n nv k L p) (hk : k ≤ 1000000) {i : Nat} {m : MS} (hm : p.ms[i]? = some m) (hb : p.bs.getD i false = true) : StepOk code m p.u ∧ (stepM code m p.u).2.2.outs.length ≤ 1 := by
 obtain ⟨fs, hS⟩ := h.job i m hm hb
 refine ⟨hS.ok hc ha hk, ?_⟩
 obtain ⟨d, hr⟩ := hS.rel
 have hcc := conc_step (u := p.u) hc ha hr m rfl rfl rfl hS.wl
 have := hcc.l3
 rw [hcc.u]
 rw [h.uo] at this
 simpa using this
theorem SimI.turnq (hc : Coded es code ws) (ha : Alike es ws) (h : SimI es code n nv k L p) {i : Nat} (hb : p.bs.getD i false = true) (tick : Int) : SimI es code n nv (k + 1) (L + 2) (turnQ code i tick p) := by
 unfold turnQ
 split
 ·exact h.more (by omega) (by omega)
 ·rename_i m hm
  obtain ⟨fs, hS⟩ := h.job i m hm hb
  obtain ⟨d, hr⟩ := hS.rel
  have hcc := conc_step (u := p.u) hc ha hr m rfl rfl rfl hS.wl
  obtain ⟨e1, e2, e3, e4⟩ := hS.step hc ha
  have hwl := hcc.wl
  have hl5 := hcc.l5
  have hl3 := hcc.l3
  rw [← hcc.s, ← hcc.u] at hwl
  rw [← hcc.u] at hl5 hl3
  rw [h.uo] at hl3
  have hil := (List.getElem?_eq_some_iff.1 hm).1
  refine ⟨by rw [List.length_set]; exact h.l1, ?_, rfl, hl5.trans h.uv, hwl.v, hwl.i, ?_, fun j mj hmj hbj => ?_⟩
  ·show (if _ then _ else _ : List Bool).length = n
   split
   ·rw [List.length_set]; exact h.l2
   ·exact h.l2
  ·have := h.le
   show (p.es ++ puts i tick _ ++ _).length ≤ _
   rw [List.length_append, List.length_append, puts, List.length_map]
   simp only [List.length_nil] at hl3
   split <;> simp <;> omega
  ·simp only at hmj hbj
   by_cases e : j = i
   ·subst e
    rw [List.getElem?_set_self hil] at hmj
    obtain rfl := Option.some.inj hmj
    by_cases h4 : (stepM code m p.u).1 = 4
    ·have s := e4 (e1 ▸ h4)
     exact ⟨_, s.rel, ⟨s.wl.s, s.wl.v, s.wl.i, s.wl.l⟩, s.l1, s.l2, Nat.zero_le _, s.l4⟩
    ·rw [if_pos h4, List.getD_eq_getElem?_getD, List.getElem?_set_self (by rw [h.l2, ← h.l1]; exact hil)] at hbj
     cases hbj
   ·rw [List.getElem?_set_ne (fun h => e h.symm)] at hmj
    have hbj' : p.bs.getD j false = true := by
     split at hbj
     ·rwa [List.getD_eq_getElem?_getD, List.getElem?_set_ne (fun h => e h.symm), ← List.getD_eq_getElem?_getD] at hbj
     ·exact hbj
    obtain ⟨fj, s⟩ := h.job j mj hmj hbj'
    have := s.l1
    have := s.l2
    have := s.l4
    exact ⟨fj, s.rel, ⟨s.wl.s, hwl.v, hwl.i, s.wl.l⟩, by omega, by omega, Nat.zero_le _, by omega⟩
theorem SimI.turn (hc : Coded es code ws) (ha : Alike es ws) (h : SimI es code n nv k L p) (tick : Int) : SimI es code n nv (k + 1) (L + 2) (turnP code rk n tick p) := by
 unfold turnP
 split
 ·exact h.more (by omega) (by omega)
 ·rename_i i hi
  exact h.turnq hc ha (turn_busy hi) tick
theorem SimI.tick (hc : Coded es code ws) (ha : Alike es ws) (ht : ∀ t ∈ ts, TOk es code t) (hn : n ≤ 8) (h : SimI es code n nv k (10 * k) p) (tick : Int) : SimI es code n nv (k + 1) (10 * (k + 1)) (tickP code ts rk n tick p) :=
 ((h.rel ht tick n 0 _ p).turn hc ha tick).more (Nat.le_refl _) (by omega)
theorem SimI.sim (hc : Coded es code ws) (ha : Alike es ws) (ht : ∀ t ∈ ts, TOk es code t) (hn : n ≤ 8) (h : SimI es code n nv 0 0 p) : ∀ k, SimI es code n nv k (10 * k) (simP code ts rk n k p)
 | 0 => h
 | k + 1 => (SimI.sim hc ha ht hn h k).tick hc ha ht hn k
end
def dueI (ts : List JT) (i : Nat) (tick : Int) : Bool := match ts[i]? with | some t => dueP t tick | none => false
def stI (ts : List JT) (i : Nat) : Nat := match ts[i]? with | some t => t.st | none => 0
def relE (ts : List JT) (tick : Int) : Nat → Nat → List EV
 | 0, _ => []
 | f + 1, k => (if dueI ts k tick = true then [⟨1, k, tick, 0⟩] else []) ++ relE ts tick f (k + 1)
theorem relO_eq (ts : List JT) (tick : Int) (f k : Nat) (p : PS) : relP ts tick (f + 1) k p = relP ts tick f (k + 1) (if dueI ts k tick = true then ⟨p.ms.set k (beginM (stI ts k)), p.bs.set k true, p.u, p.es ++ [⟨1, k, tick, 0⟩]⟩ else p) := by
 rw [relP]
 unfold dueI stI
 cases h : ts[k]? with
 | none => simp
 | some t => simp only; rfl
theorem rel_es (ts : List JT) (tick : Int) : ∀ (f k : Nat) (p : PS), (relP ts tick f k p).es = p.es ++ relE ts tick f k
 | 0, _, p => by simp [relP, relE]
 | f + 1, k, p => by
  rw [relO_eq, rel_es ts tick f (k + 1), relE]
  split
  ·simp
  ·simp
theorem rel_bs (ts : List JT) (tick : Int) : ∀ (f k : Nat) (p : PS) (i : Nat), i < p.bs.length → (relP ts tick f k p).bs.getD i false = (p.bs.getD i false || (decide (k ≤ i ∧ i < k + f) && dueI ts i tick))
 | 0, k, p, i, _ => by
  have : decide (k ≤ i ∧ i < k + 0) = false := decide_eq_false (by omega)
  rw [this]; simp [relP]
 | f + 1, k, p, i, hi => by
  rw [relO_eq, rel_bs ts tick f (k + 1) _ i (by split <;> simp [hi])]
  by_cases hk : i = k
  ·subst hk
   rw [show decide (i + 1 ≤ i ∧ i < i + 1 + f) = false from decide_eq_false (by omega), show decide (i ≤ i ∧ i < i + (f + 1)) = true from decide_eq_true (by omega)]
   cases dueI ts i tick with
   | false => simp
   | true => simp [hi]
  ·have e : decide (k + 1 ≤ i ∧ i < k + 1 + f) = decide (k ≤ i ∧ i < k + (f + 1)) := by
    rw [decide_eq_decide]; omega
   rw [e]
   split
   ·simp only [List.getD_eq_getElem?_getD]
    rw [List.getElem?_set_ne (fun h => hk h.symm)]
   ·rfl
theorem rel_ms (ts : List JT) (tick : Int) : ∀ (f k : Nat) (p : PS) (i : Nat), i < p.ms.length → (relP ts tick f k p).ms[i]? = if (decide (k ≤ i ∧ i < k + f) && dueI ts i tick) = true then some (beginM (stI ts i)) else p.ms[i]?
 | 0, k, p, i, _ => by
  have : decide (k ≤ i ∧ i < k + 0) = false := decide_eq_false (by omega)
  rw [this]; simp [relP]
 | f + 1, k, p, i, hi => by
  rw [relO_eq, rel_ms ts tick f (k + 1) _ i (by split <;> simp [hi])]
  by_cases hk : i = k
  ·subst hk
   rw [show decide (i + 1 ≤ i ∧ i < i + 1 + f) = false from decide_eq_false (by omega), show decide (i ≤ i ∧ i < i + (f + 1)) = true from decide_eq_true (by omega)]
   cases dueI ts i tick with
   | false => simp
   | true => simp [hi]
  ·have e : decide (k + 1 ≤ i ∧ i < k + 1 + f) = decide (k ≤ i ∧ i < k + (f + 1)) := by
    rw [decide_eq_decide]; omega
   rw [e]
   split
   ·rfl
   ·split
    ·rw [List.getElem?_set_ne (fun h => hk h.symm)]
    ·rfl
theorem turn_some {rk : List Nat} {bs : List Bool} {i : Nat} : ∀ {f k : Nat}, turnOf rk bs f k = some i → ∃ q, k ≤ q ∧ q < k + f ∧ i = rk.getD q 0 ∧ bs.getD i false = true ∧ ∀ q', k ≤ q' → q' < q → bs.getD (rk.getD q' 0) false = false
 | 0, _, h => by cases h
 | f + 1, k, h => by
  unfold turnOf at h
  split at h
  ·rename_i hb
   obtain rfl := Option.some.inj h
   exact ⟨k, Nat.le_refl _, by omega, rfl, hb, fun q' a b => by omega⟩
  ·rename_i hb
   obtain ⟨q, a, b, c, d, e⟩ := turn_some h
   refine ⟨q, by omega, by omega, c, d, fun q' a' b' => ?_⟩
   rcases Nat.lt_or_ge k q' with g | g
   ·exact e q' (by omega) b'
   ·obtain rfl : q' = k := by omega
    simpa using hb
theorem turn_none {rk : List Nat} {bs : List Bool} : ∀ {f k : Nat}, turnOf rk bs f k = none → ∀ q, k ≤ q → q < k + f → bs.getD (rk.getD q 0) false = false
 | 0, _, _, q, a, b => by omega
 | f + 1, k, h, q, a, b => by
  unfold turnOf at h
  split at h
  ·cases h
  ·rename_i hb
   rcases Nat.lt_or_ge k q with g | g
   ·exact turn_none h q (by omega) (by omega)
   ·obtain rfl : q = k := by omega
    simpa using hb
section
variable {ls : List (Int × Int)} {bs : List Bool} {i : Nat}
theorem turn_who (h : turnOf (rksP ls) bs ls.length 0 = some i) : i < ls.length ∧ bs.getD i false = true ∧ ∀ j, j < ls.length → goesP ls j i = true → bs.getD j false = false := by
 obtain ⟨q, _, b, c, d, e⟩ := turn_some h
 rw [Nat.zero_add] at b
 rw [rks_at b] at c
 obtain ⟨h1, h2⟩ := hold_ok b
 refine ⟨by rw [c]; exact h1, d, fun j hj hg => ?_⟩
 have hr := rank_goes hj hg
 rw [c, h2] at hr
 have := e (rankP ls j) (Nat.zero_le _) hr
 rw [rks_at (rank_lt hj), hold_rank hj] at this
 exact this
theorem turn_idle (h : turnOf (rksP ls) bs ls.length 0 = none) : ∀ j, j < ls.length → bs.getD j false = false := fun j hj => by
 have := turn_none h (rankP ls j) (Nat.zero_le _) (by rw [Nat.zero_add]; exact rank_lt hj)
 rw [rks_at (rank_lt hj), hold_rank hj] at this
 exact this
end
structure SP where
 code : List Int
 ts : List JT
 rk : List Nat
 n : Nat
 p0 : PS
def SP.at_ (z : SP) (x : Nat) : PS := simP z.code z.ts z.rk z.n x z.p0
def SP.rel (z : SP) (x : Nat) : PS := relP z.ts x z.n 0 (z.at_ x)
def SP.run (z : SP) (x : Nat) : Option Nat := turnOf z.rk (z.rel x).bs z.n 0
def SP.end_ (z : SP) (x : Nat) : Int := match z.run x with
 | some k => match (z.rel x).ms[k]? with
  | some m => (stepM z.code m (z.rel x).u).1
  | none => 4
 | none => 4
def SP.pend (z : SP) (C : Nat → Nat) : Nat → Nat → Nat
 | 0, _ => 0
 | x + 1, i => if z.run x = some i then (if z.end_ x ≠ 4 then 0 else (if dueI z.ts i x = true then C i else z.pend C x i) - 1) else (if dueI z.ts i x = true then C i else z.pend C x i)
def SP.q (z : SP) (C : Nat → Nat) (x i : Nat) : Nat := if dueI z.ts i x = true then C i else z.pend C x i
theorem SP.at_succ (z : SP) (x : Nat) : z.at_ (x + 1) = turnP z.code z.rk z.n x (z.rel x) := rfl
theorem SP.at_run (z : SP) {x k : Nat} (h : z.run x = some k) : z.at_ (x + 1) = turnQ z.code k x (z.rel x) := by
 rw [SP.at_succ]
 unfold turnP
 rw [show turnOf z.rk (z.rel x).bs z.n 0 = some k from h]
theorem SP.at_idle (z : SP) {x : Nat} (h : z.run x = none) : z.at_ (x + 1) = z.rel x := by
 rw [SP.at_succ]
 unfold turnP
 rw [show turnOf z.rk (z.rel x).bs z.n 0 = none from h]
def TOkL (es : List PE) (code : List Int) (ws : List RW) (t : JT) (N : Nat) : Prop := ∃ (y : RW) (q : Nat), CList es code false y.its t.st q ∧ code[q]? = some 34 ∧ t.st < code.length ∧ Left ws N [⟨y.its, 0, 3, 0, 0⟩] []
structure SOk (z : SP) (C : Nat → Nat) (es : List PE) (ws : List RW) (nv : Nat) : Prop where
 cod : Coded es z.code ws
 ali : Alike es ws
 n8 : z.n ≤ 8
 tl : z.ts.length = z.n
 ok : ∀ i t, z.ts[i]? = some t → TOkL es z.code ws t (C i)
 ini : SimI es z.code z.n nv 0 0 z.p0
 idle : ∀ i, z.p0.bs.getD i false = false
theorem TOkL.tok {es : List PE} {code : List Int} {ws : List RW} {t : JT} {N : Nat} (h : TOkL es code ws t N) : TOk es code t := by
 obtain ⟨y, q, a, b, c, _⟩ := h
 exact ⟨y, q, a, b, c⟩
theorem TOkL.pos {es : List PE} {code : List Int} {ws : List RW} {t : JT} {N : Nat} (h : TOkL es code ws t N) : 1 ≤ N := by
 obtain ⟨y, q, a, b, c, d⟩ := h
 cases N with
 | zero => exact d.elim
 | succ N => omega
section
variable {z : SP} {C : Nat → Nat} {es : List PE} {ws : List RW} {nv : Nat}
def JobL (es : List PE) (ws : List RW) (code : List Int) (x : Nat) (p : PS) (N : Nat) (i : Nat) : Prop := p.bs.getD i false = decide (0 < N) ∧ (0 < N → ∃ m fs, p.ms[i]? = some m ∧ Sim es code x fs m p.u ∧ Left ws N fs m.stk)
theorem SOk.tok (h : SOk z C es ws nv) : ∀ t ∈ z.ts, TOk es z.code t := fun t ht => by
 obtain ⟨i, hi, e⟩ := List.getElem_of_mem ht
 exact (h.ok i t (by rw [List.getElem?_eq_getElem hi, e])).tok
theorem SOk.simI (h : SOk z C es ws nv) (x : Nat) : SimI es z.code z.n nv x (10 * x) (z.at_ x) := SimI.sim h.cod h.ali h.tok h.n8 h.ini x
theorem SOk.simR (h : SOk z C es ws nv) (x : Nat) : SimI es z.code z.n nv x (10 * x + z.n) (z.rel x) := SimI.rel h.tok _ z.n 0 _ _ (h.simI x)
theorem SOk.cpos (h : SOk z C es ws nv) {i : Nat} (hi : i < z.n) : 1 ≤ C i := by
 have hl : i < z.ts.length := by rw [h.tl]; exact hi
 exact (h.ok i z.ts[i] (List.getElem?_eq_getElem hl)).pos
theorem job_rel (h : SOk z C es ws nv) {x i : Nat} (hi : i < z.n) (hj : JobL es ws z.code x (z.at_ x) (z.pend C x i) i) : JobL es ws z.code x (z.rel x) (z.q C x i) i := by
 have hI := h.simI x
 have hl : i < z.ts.length := by rw [h.tl]; exact hi
 have hd : decide (0 ≤ i ∧ i < 0 + z.n) = true := decide_eq_true (by omega)
 have hb : (z.rel x).bs.getD i false = ((z.at_ x).bs.getD i false || dueI z.ts i x) := by
  unfold SP.rel
  rw [rel_bs z.ts x z.n 0 _ i (by rw [hI.l2]; exact hi), hd, Bool.true_and]
 have hm : (z.rel x).ms[i]? = if dueI z.ts i x = true then some (beginM (stI z.ts i)) else (z.at_ x).ms[i]? := by
  unfold SP.rel
  rw [rel_ms z.ts x z.n 0 _ i (by rw [hI.l1]; exact hi), hd, Bool.true_and]
 have hu : (z.rel x).u = (z.at_ x).u := by
  unfold SP.rel
  have : ∀ (f k : Nat) (p : PS), (relP z.ts x f k p).u = p.u := by
   intro f
   induction f with
   | zero => intro k p; rfl
   | succ f ih =>
    intro k p
    rw [relO_eq, ih]
    split <;> rfl
  exact this _ _ _
 unfold SP.q
 by_cases hdu : dueI z.ts i x = true
 ·rw [if_pos hdu]
  have hc := h.cpos hi
  refine ⟨?_, fun _ => ?_⟩
  ·rw [hb, hdu, Bool.or_true]; exact (decide_eq_true (by omega)).symm
  ·rw [if_pos hdu] at hm
   obtain ⟨y, q, a, b, c, d⟩ := h.ok i z.ts[i] (List.getElem?_eq_getElem hl)
   have hst : stI z.ts i = z.ts[i].st := by unfold stI; rw [List.getElem?_eq_getElem hl]
   refine ⟨_, [⟨y.its, 0, 3, 0, 0⟩], hm, ?_, ?_⟩
   ·rw [hst]
    exact ⟨⟨false, .last _ _ q ⟨rfl, a.most (by omega)⟩ (show CList es z.code false (y.its.drop 0) z.ts[i].st q by simpa using a) b⟩, ⟨(fun a ha => by cases ha), (h.simR x).vc, (h.simR x).ic, Nat.zero_le _⟩, Nat.zero_le _, Nat.zero_le _, by rw [(h.simR x).uo]; exact Nat.zero_le _, by simp⟩
   ·exact d
 ·rw [if_neg hdu]
  rw [if_neg hdu] at hm
  have hdf : dueI z.ts i x = false := by simpa using hdu
  refine ⟨by rw [hb, hdf, Bool.or_false]; exact hj.1, fun hp => ?_⟩
  obtain ⟨m, fs, a, b, c⟩ := hj.2 hp
  exact ⟨m, fs, by rw [hm]; exact a, by rw [hu]; exact b, c⟩
theorem run_step (h : SOk z C es ws nv) {x k : Nat} (hk : k < z.n) (hr : z.run x = some k) (hj : JobL es ws z.code x (z.rel x) (z.q C x k) k) : ∃ m fs, (z.rel x).ms[k]? = some m ∧ Sim es z.code x fs m (z.rel x).u ∧ 1 ≤ z.q C x k ∧ z.end_ x = (stepM z.code m (z.rel x).u).1 ∧ (z.end_ x = 0 ∨ z.end_ x = 3 ∨ (z.end_ x = 4 ∧ 2 ≤ z.q C x k ∧ ∃ fs', Sim es z.code (x + 1) fs' (stepM z.code m (z.rel x).u).2.1 (stepM z.code m (z.rel x).u).2.2 ∧ Left ws (z.q C x k - 1) fs' (stepM z.code m (z.rel x).u).2.1.stk)) := by
 have hb := turn_busy hr
 have hp : 0 < z.q C x k := by
  have := hj.1
  rw [hb] at this
  exact of_decide_eq_true this.symm
 obtain ⟨m, fs, a, b, c⟩ := hj.2 hp
 have he : z.end_ x = (stepM z.code m (z.rel x).u).1 := by
  unfold SP.end_
  rw [hr]
  simp only [a]
 refine ⟨m, fs, a, b, hp, he, ?_⟩
 obtain ⟨s1, s2, s3, s4⟩ := b.step h.cod h.ali
 obtain ⟨N, hN⟩ : ∃ N, z.q C x k = N + 1 := ⟨z.q C x k - 1, by omega⟩
 rw [hN] at c ⊢
 rw [he, s1]
 rcases c (z.rel x).u ⟨(h.simR x).vc, (h.simR x).ic⟩ with e | e | ⟨e, hl⟩
 ·exact Or.inl e
 ·exact Or.inr (Or.inl e)
 ·refine Or.inr (Or.inr ⟨e, ?_, _, s4 e, ?_⟩)
  ·cases N with
   | zero => exact hl.elim
   | succ N => omega
  ·rw [Nat.add_sub_cancel, s2]; exact hl
theorem job_all (h : SOk z C es ws nv) : ∀ x i, i < z.n → JobL es ws z.code x (z.at_ x) (z.pend C x i) i
 | 0, i, hi => by
  refine ⟨?_, fun hp => absurd hp (by simp [SP.pend])⟩
  show z.p0.bs.getD i false = _
  rw [h.idle i]
  simp [SP.pend]
 | x + 1, i, hi => by
  have hR := fun j hj => job_rel h (i := j) hj (job_all h x j hj)
  have hri := hR i hi
  have hSR := h.simR x
  cases hr : z.run x with
  | none =>
   have hpe : z.pend C (x + 1) i = z.q C x i := by
    rw [SP.pend, if_neg (by rw [hr]; simp)]; rfl
   rw [hpe, z.at_idle hr]
   refine ⟨hri.1, fun hp => ?_⟩
   obtain ⟨m, fs, a, b, c⟩ := hri.2 hp
   have := b.l1; have := b.l2; have := b.l3; have := b.l4
   exact ⟨m, fs, a, ⟨b.rel, b.wl, by omega, by omega, by omega, by omega⟩, c⟩
  | some k =>
   have hkn : k < z.n := by
    have hb := turn_busy hr
    rw [List.getD_eq_getElem?_getD] at hb
    rcases Nat.lt_or_ge k (z.rel x).bs.length with g | g
    ·rw [hSR.l2] at g; exact g
    ·rw [List.getElem?_eq_none g] at hb; cases hb
   obtain ⟨m, fs, a, b, hp1, he, hcase⟩ := run_step h hkn hr (hR k hkn)
   have hkl : k < (z.rel x).ms.length := by rw [hSR.l1]; exact hkn
   obtain ⟨d, hrel⟩ := b.rel
   have hcc := conc_step (u := (z.rel x).u) h.cod h.ali hrel m rfl rfl rfl b.wl
   have hwl := hcc.wl
   rw [← hcc.s, ← hcc.u] at hwl
   rw [z.at_run hr]
   unfold turnQ
   rw [a]
   simp only
   rw [← he]
   by_cases hik : i = k
   ·subst hik
    rcases hcase with e | e | ⟨e, e2, fs', e3, e4⟩
    ·have hN : z.pend C (x + 1) i = 0 := by rw [SP.pend, if_pos hr, e, if_pos (by decide)]
     rw [hN, e, if_pos (by decide)]
     refine ⟨?_, fun h => absurd h (Nat.lt_irrefl _)⟩
     simp only [List.getD_eq_getElem?_getD]
     rw [List.getElem?_set_self (by rw [hSR.l2]; exact hkn)]; rfl
    ·have hN : z.pend C (x + 1) i = 0 := by rw [SP.pend, if_pos hr, e, if_pos (by decide)]
     rw [hN, e, if_pos (by decide)]
     refine ⟨?_, fun h => absurd h (Nat.lt_irrefl _)⟩
     simp only [List.getD_eq_getElem?_getD]
     rw [List.getElem?_set_self (by rw [hSR.l2]; exact hkn)]; rfl
    ·have hN : z.pend C (x + 1) i = z.q C x i - 1 := by rw [SP.pend, if_pos hr, e, if_neg (by decide)]; rfl
     rw [hN, e, if_neg (by decide)]
     refine ⟨?_, fun _ => ⟨_, fs', by rw [List.getElem?_set_self hkl], ⟨e3.rel, ⟨e3.wl.s, e3.wl.v, e3.wl.i, e3.wl.l⟩, e3.l1, e3.l2, Nat.zero_le _, e3.l4⟩, e4⟩⟩
     simp only
     rw [hri.1, decide_eq_decide]
     omega
   ·have hne : ¬ z.run x = some i := by rw [hr]; intro e; exact hik (Option.some.inj e).symm
    rw [SP.pend, if_neg hne]
    have e1' : (if dueI z.ts i x = true then C i else z.pend C x i) = z.q C x i := rfl
    rw [e1']
    refine ⟨?_, fun hp => ?_⟩
    ·rw [← hri.1]
     split
     ·simp only [List.getD_eq_getElem?_getD]
      rw [List.getElem?_set_ne (fun h => hik h.symm)]
     ·rfl
    ·obtain ⟨mi, fi, ai, bi, ci⟩ := hri.2 hp
     have := bi.l1; have := bi.l2; have := bi.l4
     exact ⟨mi, fi, by rw [List.getElem?_set_ne (fun h => hik h.symm)]; exact ai, ⟨bi.rel, ⟨bi.wl.s, hwl.v, hwl.i, bi.wl.l⟩, by omega, by omega, Nat.zero_le _, by omega⟩, ci⟩
end
theorem respG_fix {D : Int → Int} {dl : Int} : ∀ (f : Nat) (r : Int), respG D dl f r ≠ 0 → D (respG D dl f r) = respG D dl f r ∧ respG D dl f r ≤ dl
 | 0, r, h => absurd rfl h
 | f + 1, r, h => by
  unfold respG at h ⊢
  repeat' split at h
  all_goals repeat' split
  all_goals first
   | exact absurd rfl h
   | (refine ⟨?_, ?_⟩ <;> first | assumption | omega)
   | exact respG_fix f _ h
   | omega
def aheadN (ls : List (Int × Int)) (k n : Nat) : List Nat := (List.range n).filter fun j => goesP ls j k
theorem aheadN_mem {ls : List (Int × Int)} {k n j : Nat} : j ∈ aheadN ls k n ↔ j < n ∧ goesP ls j k = true := by
 unfold aheadN
 rw [List.mem_filter, List.mem_range]
theorem ahead_map (ls : List (Int × Int)) (k : Nat) : ∀ n, aheadP ls k n = (aheadN ls k n).map fun j => (costAt ls j, perAt ls j)
 | 0 => rfl
 | n + 1 => by
  unfold aheadP aheadN
  rw [List.range_succ, List.filter_append, List.map_append, ahead_map ls k n]
  by_cases h : goesP ls n k = true
  ·rw [if_pos h]
   simp [h, aheadN]
  ·rw [if_neg h]
   simp [h, aheadN]
theorem within_sum (ls : List (Int × Int)) (C T : Nat → Nat) (R : Nat) : ∀ (A : List Nat), (∀ j ∈ A, (C j : Int) = costAt ls j ∧ (T j : Int) = perAt ls j ∧ 1 ≤ T j) → within R (A.map fun j => (costAt ls j, perAt ls j)) = (sumRs (fun j => C j * ((R + T j - 1) / T j)) A : Nat)
 | [], _ => rfl
 | j :: A, h => by
  obtain ⟨h1, h2, h3⟩ := h j List.mem_cons_self
  have ih := within_sum ls C T R A (fun i hi => h i (List.mem_cons_of_mem _ hi))
  rw [List.map_cons, sumRs, Int.natCast_add, ← ih, Int.natCast_mul, Int.natCast_ediv, h1, h2, ← h2]
  rw [show ((R + T j - 1 : Nat) : Int) = (R : Int) + (T j : Int) - 1 by omega]
  rfl
theorem due_apart {ts : List JT} {i : Nat} {t : JT} (ht : ts[i]? = some t) (hp : 1 ≤ t.per) {x y : Nat} (h1 : dueI ts i x = true) (h2 : dueI ts i y = true) (h : x < y) : (x : Int) + t.per ≤ y := by
 unfold dueI at h1 h2
 rw [ht] at h1 h2
 unfold dueP at h1 h2
 simp only [Bool.and_eq_true, decide_eq_true_eq, beq_iff_eq] at h1 h2
 have d1 : t.per ∣ (x : Int) - t.off := Int.dvd_of_emod_eq_zero h1.2
 have d2 : t.per ∣ (y : Int) - t.off := Int.dvd_of_emod_eq_zero h2.2
 have d3 : t.per ∣ ((y : Int) - t.off) - ((x : Int) - t.off) := Int.dvd_sub d2 d1
 have := Int.le_of_dvd (by omega) d3
 omega
section
variable {z : SP} {C : Nat → Nat} {es : List PE} {ws : List RW} {nv : Nat} {ls : List (Int × Int)}
theorem turns_z (h : SOk z C es ws nv) (hls : ls.length = z.n) (hrk : z.rk = rksP ls) (H : Nat) : TurnsR8 C (fun i x => dueI z.ts i x) (fun j i => goesP ls j i = true) z.n H (z.pend C) (z.q C) z.run := by
 have hJ := fun x i hi => job_rel h (x := x) (i := i) hi (job_all h x i hi)
 have hz : ∀ x i, i < z.n → (z.rel x).bs.getD i false = false → z.q C x i = 0 := fun x i hi hb => by
  have := (hJ x i hi).1
  rw [hb] at this
  have := of_decide_eq_false this.symm
  omega
 have hrun : ∀ x i, z.run x = some i → i < z.n ∧ (z.rel x).bs.getD i false = true ∧ ∀ j, j < z.n → goesP ls j i = true → (z.rel x).bs.getD j false = false := fun x i hr => by
  have : turnOf (rksP ls) (z.rel x).bs ls.length 0 = some i := by rw [← hrk, hls]; exact hr
  have := turn_who this
  rw [hls] at this
  exact this
 refine ⟨fun i hi => rfl, fun x i _ _ => rfl, fun x i _ hr => ?_, fun x _ hr j hj => ?_, fun x i _ hr => ?_, fun x j _ hj hr => ?_⟩
 ·obtain ⟨a, b, c⟩ := hrun x i hr
  refine ⟨a, ?_, fun j hj hg => hz x j hj (c j hj hg)⟩
  have := (hJ x i a).1
  rw [b] at this
  exact of_decide_eq_true this.symm
 ·have : turnOf (rksP ls) (z.rel x).bs ls.length 0 = none := by rw [← hrk, hls]; exact hr
  exact hz x j hj (turn_idle this j (by rw [hls]; exact hj))
 ·obtain ⟨a, b, c⟩ := hrun x i hr
  obtain ⟨m, fs, _, _, hp, _, hc⟩ := run_step h a hr (hJ x i a)
  have e1 : z.q C x i = (if dueI z.ts i x = true then C i else z.pend C x i) := rfl
  rw [SP.pend, if_pos hr]
  rcases hc with e | e | ⟨e, e2, _⟩
  ·rw [e, if_pos (by decide)]; omega
  ·rw [e, if_pos (by decide)]; omega
  ·rw [e, if_neg (by decide), ← e1]; omega
 ·rw [SP.pend, if_neg hr]; rfl
structure Fit8 (z : SP) (C : Nat → Nat) (ls : List (Int × Int)) : Prop where
 len : ls.length = z.n
 rk : z.rk = rksP ls
 cost : ∀ j, j < z.n → (C j : Int) = costAt ls j
 per : ∀ j t, z.ts[j]? = some t → perAt ls j = t.per ∧ 1 ≤ t.per
theorem in_time (h : SOk z C es ws nv) (hf : Fit8 z C ls) {k r R : Nat} {t : JT} (hk : z.ts[k]? = some t) (hR : demandT ls k R = R) (hRT : (R : Int) ≤ t.per) (hr : dueI z.ts k r = true) : ∃ y, r < y ∧ y ≤ r + R ∧ z.pend C y k = 0 := by
 have hkn : k < z.n := by rw [← h.tl]; exact (List.getElem?_eq_some_iff.1 hk).1
 have hper : ∀ j, j < z.n → ∃ t, z.ts[j]? = some t ∧ ((perAt ls j).toNat : Int) = t.per ∧ perAt ls j = t.per ∧ 1 ≤ t.per := fun j hj => by
  have hl : j < z.ts.length := by rw [h.tl]; exact hj
  obtain ⟨a, b⟩ := hf.per j z.ts[j] (List.getElem?_eq_getElem hl)
  exact ⟨_, List.getElem?_eq_getElem hl, by omega, a, b⟩
 refine resp_abs (T := fun j => (perAt ls j).toNat) (A := aheadN ls k z.n) (turns_z h hf.len hf.rk (r + R)) (fun i hi => h.cpos hi) (fun i hi => ?_) (fun i hi x y h1 h2 hxy => ?_) (fun i j hij => goes_total hij) (fun i j k h1 h2 => goes_trans h1 h2) hkn (fun j => aheadN_mem) (fun hm => ?_) ?_ ?_ hr (Nat.le_refl _)
 ·obtain ⟨t', _, a, _, c⟩ := hper i hi
  omega
 ·obtain ⟨t', b, a, _, c⟩ := hper i hi
  have := due_apart b c h1 h2 hxy
  omega
 ·have := (aheadN_mem.1 hm).2
  rw [goes_irr] at this
  cases this
 ·have hw := within_sum ls C (fun j => (perAt ls j).toNat) R (aheadN ls k z.n) (fun j hj => by
   have hjn := (aheadN_mem.1 hj).1
   obtain ⟨t', _, a, b, c⟩ := hper j hjn
   exact ⟨hf.cost j hjn, by omega, by omega⟩)
  unfold demandT at hR
  rw [hf.len, ahead_map, hw, ← hf.cost k hkn] at hR
  omega
 ·obtain ⟨t', b, a, c, d⟩ := hper k hkn
  rw [hk] at b
  obtain rfl := Option.some.inj b
  omega
end
section
variable {i n : Nat} {per R h : Int}
end
section
variable {z : SP} {C : Nat → Nat} {es : List PE} {ws : List RW} {nv : Nat} {ls : List (Int × Int)}
theorem SP.es_idle (z : SP) {x : Nat} (h : z.run x = none) : (z.at_ (x + 1)).es = (z.at_ x).es ++ relE z.ts x z.n 0 := by
 rw [z.at_idle h, SP.rel, rel_es]
theorem SP.es_run (z : SP) {x k : Nat} {m : MS} (h : z.run x = some k) (hm : (z.rel x).ms[k]? = some m) : (z.at_ (x + 1)).es = (z.at_ x).es ++ relE z.ts x z.n 0 ++ puts k x (stepM z.code m (z.rel x).u).2.2.outs ++ (if (stepM z.code m (z.rel x).u).1 ≠ 4 then [⟨2, k, x, (stepM z.code m (z.rel x).u).1⟩] else []) := by
 rw [z.at_run h, turnQ, hm]
 simp only
 rw [show (z.rel x).es = (z.at_ x).es ++ relE z.ts x z.n 0 from rel_es _ _ _ _ _]
end
theorem insAt_none (B : Nat) (w : World) : InsAt B w (.slice none 0 0) [] := Or.inl ⟨rfl, none, 0, rfl⟩
theorem lc_none (w : World) (v : Value) : Lc w v (.slice none 0 0) := fun k hk => by simp [Value.ownBlock] at hk
section
variable {B : Nat} {w : World} {s : SX} {code : List Int} {u : MW} {js : List (JX × MS)} {tb gn gr : Nat} {ev : Value} {jbs : List Nat} {ts : List JT} {rk : List Nat} {bs : List Bool} {es : List EV}
theorem beg_rn {w' : World} {x : RX} {m : MS} {cs cs' : Array Value} {p : Nat} (h : RAt B w x code m u) (hcs : CsAt x m cs) (hb : Blk w' x.mb cs' 116) (hg : BegC cs cs' [] (p : Int)) (hp : p ≤ code.length) (hc : Chg (fun b => b = x.mb) w w') :
  RN B w x code (beginM p) u w' { x with lv := .slice none 0 0, cv := .slice none 0 0 } :=
 h.machine (m' := beginM p) (lv' := .slice none 0 0) (cv' := .slice none 0 0) (hc.mono (fun b _ e => Or.inl e)) ⟨cs', hb, ⟨(by have := hg.mc; simpa [beginM] using this), hg.c33, hg.c34, hg.c35.trans hcs.c35, hg.c36.trans hcs.c36, hg.c37.trans hcs.c37, hg.c38⟩⟩ (row0 _ _ _ _) (row0 _ _ _ _) (lc_none _ _) (lc_none _ _) ⟨by simp [beginM], by simp [beginM], hp⟩
theorem TAt.begin {i jb : Nat} {a : JX × MS} {t : JT} (h : TAt B w tb gn gr s code u ev jbs ts rk js bs es) (hi : jbs[i]? = some jb) (ha : js[i]? = some a) (ht : ts[i]? = some t) :
  Calls Tryz.prog 73 #[.pointer (some ⟨a.1.mb, 0, none⟩), .slice none 0 0] w fun e w' => e = .returned (.tuple #[]) ∧ (∃ js', js'.map Prod.snd = (js.map Prod.snd).set i (beginM t.st) ∧ TAt B w' tb gn gr s code u ev jbs ts rk js' bs es) ∧ Below B w w' := by
 obtain ⟨a0, t0, b0, k1, k2, k3, k4, k5, k6, k7⟩ := h.jobs i jb hi
 obtain rfl : a0 = a := Option.some.inj (k1.symm.trans ha)
 obtain rfl : t0 = t := Option.some.inj (k2.symm.trans ht)
 have hR := h.fam.rAt ha
 obtain ⟨cs, c1, c2⟩ := hR.mac
 refine (mach_begin (B := B) (st := (t0.st : Int)) [] c1 c2.mc.size (by rw [← k6]; exact c2.c37) (Nat.zero_le _) (insAt_none B w) hR.bm).mono ?_
 rintro e w' ⟨rfl, cs', hb, hg, hc⟩
 have hn := beg_rn hR c2 hb hg k7 hc
 obtain ⟨t1, t2⟩ := h.stepped ha hn
 refine ⟨rfl, ⟨_, ?_, t1⟩, h.toBelow t2 (fun b hb => h.fam.base hb)⟩
 rw [List.map_set]
def RelPost (B : Nat) (tb gn gr : Nat) (s : SX) (code : List Int) (u : MW) (jbs : List Nat) (ts : List JT) (rk : List Nat) (P : PS) (w : World) (e : Ending) (w' : World) : Prop :=
 e = .returned (.tuple #[]) ∧ Below B w w' ∧ ∃ ev' js', js'.map Prod.snd = P.ms ∧ TAt B w' tb gn gr s code u ev' jbs ts rk js' P.bs P.es
def TFit (t : JT) : Prop := 1 ≤ t.per ∧ t.per ≤ 1000000 ∧ 0 ≤ t.off ∧ t.off ≤ 1000000
theorem turns_release (h : TAt B w tb gn gr s code u ev jbs ts rk js bs es) (tick : Int) (hts : ∀ t ∈ ts, TFit t) (k1 : 0 ≤ tick) (k2 : tick ≤ 1000000) (hl : es.length ≤ 80000000) :
  Calls Tryz.prog 58 #[.pointer (some ⟨tb, 0, none⟩), .int .i64 tick] w (RelPost B tb gn gr s code u jbs ts rk (relP ts tick jbs.length 0 ⟨js.map Prod.snd, bs, u, es⟩) w) := by
 obtain ⟨n, hn⟩ : ∃ n, n = jbs.length := ⟨_, rfl⟩
 obtain ⟨P, hP⟩ : ∃ P, P = relP ts tick n 0 ⟨js.map Prod.snd, bs, u, es⟩ := ⟨_, rfl⟩
 rw [← hn, ← hP]
 have c1 : w.cell? ⟨tb, 1, none⟩ = some (.slice (some ⟨gn, 0, none⟩) n n) := by rw [hn]; exact h.blk.cell 1 _ rfl
 have htl := h.blk.lt
 have hn8 : n ≤ 8 := by rw [hn]; exact h.len.2.2
 have HT := hidden h; have HN := hidden hn; have HTS := hidden hts
 have HP : Hid (P = relP ts tick (n - 0) 0 ⟨js.map Prod.snd, bs, u, es⟩) := hidden hP
 have HBW := hidden (Below.refl B w)
 clear h hn hP hts
 go_enter Tryz.func58, Tryz.ntmps58
 go_wp2_with fail
 go_loopw [11] (fun k wr => ∃ (q : Nat) (ev1 : Value) (js1 : List (JX × MS)) (bs1 : List Bool) (es1 : List EV), q ≤ n ∧ k = .int .i64 q ∧ Hid (TAt B wr tb gn gr s code u ev1 jbs ts rk js1 bs1 es1) ∧ Hid (P = relP ts tick (n - q) q ⟨js1.map Prod.snd, bs1, u, es1⟩) ∧ Hid (Below B w wr) ∧ es1.length ≤ es.length + q) (fun k _ => n - (intOf k).toNat)
 case atStart => exact ⟨0, ev, js, bs, es, Nat.zero_le _, rfl, HT, HP, HBW, Nat.le_refl _⟩
 case round =>
  clear HP HT c1 HBW htl
  obtain ⟨q, ev1, js1, bs1, es1, hq, rfl, HQ, HP, HBQ, hel⟩ := hrel
  by_cases hlt : q < n
  ·have hqi : (q : Int) < (n : Int) := by omega
   have hil : q < jbs.length := by rw [← HN.out]; exact hlt
   obtain ⟨jb, hjb⟩ : ∃ jb, jb = jbs.getD q 0 := ⟨_, rfl⟩
   have hji : jbs[q]? = some jb := by rw [hjb]; simp [hil]
   have cr : wr.cell? ⟨gn, q, none⟩ = some (.pointer (some ⟨jb, 0, none⟩)) := by rw [hjb]; exact HQ.out.nrow.cell hil
   have hgl := HQ.out.nrow.lt
   obtain ⟨a, t, b, j1, j2, j3, j4, j5⟩ := HQ.out.jobs q jb hji
   have hfit := HTS.out t (List.mem_of_getElem? j2)
   have HD := hidden (job_due tick j4 hfit.1 hfit.2.1 hfit.2.2.1 hfit.2.2.2 k1 k2)
   obtain ⟨D, hD⟩ : ∃ D, D = dueP t tick := ⟨_, rfl⟩
   rw [← hD] at HD
   have hst : P = relP ts tick (n - (q + 1)) (q + 1) (relO t q tick ⟨js1.map Prod.snd, bs1, u, es1⟩) := by
    rw [HP.out, show n - q = (n - (q + 1)) + 1 by omega, relP, j2]
   have HS := hidden hst; have HJ1 := hidden j1; have HJ2 := hidden j2; have HJI := hidden hji; have HDD := hidden hD
   clear hst hjb hji hil j1 j2 j3 j4 j5 hfit hD HP
   go_wp2_with fail
   refine HD.out.mono ?_
   rintro e w3 ⟨rfl, hb3⟩
   have hT3 := HQ.out.chg (S := fun _ => False) (Chg.ofBelow hb3) (fun _ _ => id) id (fun _ _ => id) id id (fun _ _ _ => id) (fun _ e => e.elim)
   have HB3 := hidden (HBQ.out.trans (hb3.mono HQ.out.base))
   have HT3 := hidden hT3
   clear hb3 hT3 HD cr hgl HQ HBQ
   cases D with
   | false =>
    have HS2 : Hid (P = relP ts tick (n - (q + 1)) (q + 1) ⟨js1.map Prod.snd, bs1, u, es1⟩) := hidden (by rw [HS.out, relO, if_neg (by rw [← HDD.out]; decide)])
    clear HS HJ1 HJ2 HJI HDD
    go_wp2_with fail
    go_roundw
    case rel => exact ⟨q + 1, ev1, js1, bs1, es1, by omega, by go_num, HT3, HS2, HB3, by omega⟩
    case measure => simp [intOf]; omega
   | true =>
    obtain ⟨a3, t3, b3, j1, j2, j3, j4, j5⟩ := HT3.out.jobs q jb HJI.out
    obtain rfl : a3 = a := Option.some.inj (j1.symm.trans HJ1.out)
    have c0 : w3.cell? ⟨jb, 0, none⟩ = some (.pointer (some ⟨a3.1.mb, 0, none⟩)) := j4.cell 0 _ rfl
    have hjl := j4.lt
    have HBG := hidden (HT3.out.begin HJI.out HJ1.out HJ2.out)
    clear j1 j2 j3 j4 j5
    go_wp2_with fail
    refine HBG.out.mono ?_
    rintro e w4 ⟨rfl, ⟨js4, hjs4, hT4⟩, hb4⟩
    obtain ⟨a4, t4, b4, j1, j2, j3, j4, j5⟩ := hT4.jobs q jb HJI.out
    have d6 : w4.cell? ⟨jb, 6, none⟩ = some (.bool b4) := j4.cell 6 _ rfl
    have e6 := j4.frozen 6
    have hjl4 := j4.lt
    have hT5 := hT4.set_busy HJI.out true
    obtain ⟨Z, hZ⟩ : ∃ Z : World, Z = w4.setCell ⟨jb, 6, none⟩ (.bool true) := ⟨_, rfl⟩
    rw [← hZ] at hT5
    have HB5 : Hid (Below B w Z) := hidden ((HB3.out.trans hb4).trans (hT4.toBelow (S := fun b => b = jb) (by rw [hZ]; exact (Chg.refl (fun b => b = jb) w4).setCell (p := ⟨jb, 6, none⟩) rfl _) (fun b e => by rw [e]; exact j5.1)))
    have HNO := hidden (hT5.note HJI.out 1 tick 0 (by omega))
    have HS2 : Hid (P = relP ts tick (n - (q + 1)) (q + 1) ⟨js4.map Prod.snd, bs1.set q true, u, es1 ++ [⟨1, q, tick, 0⟩]⟩) := hidden (by rw [HS.out, relO, if_pos HDD.out.symm, hjs4])
    have HZ := hidden hZ; have HT5 := hidden hT5
    clear hT4 hT5 hb4 hZ j1 j2 j3 j4 j5 hjs4 HBG HT3 c0 HS HB3 hjl
    go_wp2_with fail
    rw [← HZ.out]
    refine HNO.out.mono ?_
    rintro e w6 ⟨rfl, ev6, hT6, _, hc6⟩
    have HB6 := hidden (HB5.out.trans (HT5.out.noteB hc6))
    have HT6 := hidden hT6
    clear hT6 hc6 HNO HT5 HB5 d6 e6
    go_wp2_with fail
    go_roundw
    case rel => exact ⟨q + 1, ev6, js4, bs1.set q true, es1 ++ [⟨1, q, tick, 0⟩], by omega, by go_num, HT6, HS2, HB6, by rw [List.length_append, List.length_singleton]; omega⟩
    case measure => simp [intOf]; omega
  ·obtain rfl : q = n := by omega
   have hji : ¬ (q : Int) < (q : Int) := by omega
   go_wp2_with fail
   go_end0
   have e : P = ⟨js1.map Prod.snd, bs1, u, es1⟩ := by rw [HP.out, Nat.sub_self]; rfl
   rw [e]
   exact (show RelPost _ _ _ _ _ _ _ _ _ _ _ _ _ _ from ⟨rfl, HBQ.out, ev1, js1, rfl, HQ.out⟩)
end
theorem rel_u (ts : List JT) (tick : Int) : ∀ (f k : Nat) (p : PS), (relP ts tick f k p).u = p.u
 | 0, _, _ => rfl
 | f + 1, k, p => by
  unfold relP
  split
  ·exact rel_u ts tick f (k + 1) p
  ·rw [rel_u ts tick f (k + 1)]
   unfold relO
   split <;> rfl
def SimAt (B : Nat) (w : World) (tb gn gr : Nat) (code : List Int) (jbs : List Nat) (ts : List JT) (rk : List Nat) (p : PS) : Prop :=
 ∃ s ev js, js.map Prod.snd = p.ms ∧ TAt B w tb gn gr s code p.u ev jbs ts rk js p.bs p.es
section
variable {B : Nat} {w : World} {code : List Int} {tb gn gr : Nat} {jbs : List Nat} {ts : List JT} {rk : List Nat} {p : PS}
theorem sim_release (h : SimAt B w tb gn gr code jbs ts rk p) (tick : Int) (hts : ∀ t ∈ ts, TFit t) (k1 : 0 ≤ tick) (k2 : tick ≤ 1000000) (hl : p.es.length ≤ 80000000) :
  Calls Tryz.prog 58 #[.pointer (some ⟨tb, 0, none⟩), .int .i64 tick] w fun e w' => e = .returned (.tuple #[]) ∧ SimAt B w' tb gn gr code jbs ts rk (relP ts tick jbs.length 0 p) ∧ Below B w w' := by
 obtain ⟨s, ev, js, h1, h2⟩ := h
 refine (turns_release h2 tick hts k1 k2 hl).mono ?_
 rintro e w' ⟨rfl, hb, ev', js', h3, h4⟩
 rw [h1] at h3 h4
 refine ⟨rfl, ⟨s, ev', js', h3, ?_⟩, hb⟩
 rw [rel_u]
 exact h4
theorem sim_step (h : SimAt B w tb gn gr code jbs ts rk p) (ht : Tab w) (hG : 3 ≤ B) (tick : Int) (hl : p.es.length ≤ 80000000) (hok : ∀ (i : Nat) (m : MS), p.ms[i]? = some m → p.bs.getD i false = true → StepOk code m p.u ∧ (stepM code m p.u).2.2.outs.length ≤ 1) :
  Calls Tryz.prog 59 #[.pointer (some ⟨tb, 0, none⟩), .int .i64 tick] w fun e w' => e = .returned (.tuple #[]) ∧ SimAt B w' tb gn gr code jbs ts rk (turnP code rk jbs.length tick p) ∧ Below B w w' := by
 obtain ⟨s, ev, js, h1, h2⟩ := h
 refine (turns_step h2 ht hG tick hl (fun i a ha hb => ?_)).mono ?_
 ·obtain ⟨k1, k2⟩ := hok i a.2 (by rw [← h1, List.getElem?_map, ha]; rfl) hb
  exact ⟨k1, by omega⟩
 ·intro e w' hp
  cases hq : turnOf rk p.bs jbs.length 0 with
  | none =>
   rw [hq] at hp
   obtain ⟨rfl, rfl, h3⟩ := hp
   refine ⟨rfl, ?_, Below.refl _ _⟩
   unfold turnP
   rw [hq]
   exact ⟨s, ev, js, h1, h2⟩
  | some i =>
   rw [hq] at hp
   obtain ⟨a, ha, rfl, hb, s', ev', j', h3⟩ := hp
   refine ⟨rfl, ?_, hb⟩
   have hm : p.ms[i]? = some a.2 := by rw [← h1, List.getElem?_map, ha]; rfl
   unfold turnP turnQ
   rw [hq]
   simp only [hm]
   exact ⟨s', ev', _, by rw [List.map_set, h1], h3⟩
end
theorem get_snoc {α : Type} {l : List α} {x y : α} {i : Nat} (h : (l ++ [x])[i]? = some y) : (i < l.length ∧ l[i]? = some y) ∨ (i = l.length ∧ y = x) := by
 rcases Nat.lt_trichotomy i l.length with e | e | e
 ·rw [List.getElem?_append_left e] at h; exact Or.inl ⟨e, h⟩
 ·subst e
  rw [List.getElem?_append_right (Nat.le_refl _), Nat.sub_self] at h
  exact Or.inr ⟨rfl, (Option.some.inj h).symm⟩
 ·rw [List.getElem?_eq_none (by simp; omega)] at h; cases h
section
variable {B : Nat} {w w' : World} {s : SX} {code : List Int} {u : MW} {js : List (JX × MS)}
theorem Fam.add {a : JX × MS} (h : Fam B w s code u js) (hb : Below w.heap.size w w') (hr : RAt B w' (a.1.rx s) code a.2 u) (hn : ∀ b, a.1.J b → w.heap.size ≤ b) : Fam B w' s code u (js ++ [a]) := by
 have hc : Chg (fun _ => False) w w' := Chg.ofBelow hb
 have h' := h.chg hc (fun _ _ => id) (fun _ e => e.elim)
 refine ⟨hr.wld, fun i c hi => ?_, fun i k c d hi hk hne n hc hd => ?_, fun i c hi n hc e => ?_⟩
 ·rcases get_snoc hi with ⟨_, hi⟩ | ⟨_, rfl⟩
  ·exact h'.each i c hi
  ·exact hr.job
 ·rcases get_snoc hi with ⟨_, hi2⟩ | ⟨e1, f1⟩
  ·rcases get_snoc hk with ⟨_, hk2⟩ | ⟨_, f2⟩
   ·exact h.apart i k c d hi2 hk2 hne n hc hd
   ·rw [f2] at hd; have := (h.each i c hi2).lt hc; have := hn n hd; omega
  ·rcases get_snoc hk with ⟨_, hk2⟩ | ⟨e2, _⟩
   ·rw [f1] at hc; have := (h.each k d hk2).lt hd; have := hn n hc; omega
   ·exact hne (e1.trans e2.symm)
 ·rcases get_snoc hi with ⟨_, hi⟩ | ⟨_, rfl⟩
  ·exact h.sep i c hi n hc e
  ·have := h.wld.lt e; have := hn n hc; omega
abbrev jptr (jb : Nat) : Value := .pointer (some ⟨jb, 0, none⟩)
structure TB (B : Nat) (w : World) (tb gn gr n : Nat) (s : SX) (code : List Int) (u : MW) (jbs : List Nat) (ts : List JT) (rank : Nat → Nat) (js : List (JX × MS)) : Prop where
 fam : Fam B w s code u js
 blk : Blk w tb #[.pointer (some ⟨s.wp, 0, none⟩), .slice (some ⟨gn, 0, none⟩) n n, .slice (some ⟨gr, 0, none⟩) n n, .slice none 0 0] 139
 nrow : ∃ f, w.rowIs gn 168 n f ∧ ∀ (i jb : Nat), jbs[i]? = some jb → f i = jptr jb
 rrow : ∃ f, w.rowIs gr 168 n f ∧ ∀ (i jb : Nat), jbs[i]? = some jb → f (rank i) = jptr jb
 jobs : ∀ (i : Nat) (jb : Nat), jbs[i]? = some jb → ∃ a t, js[i]? = some a ∧ ts[i]? = some t ∧ Blk w jb (jobC a.1.mb t i false) 170 ∧ (B ≤ jb ∧ a.1.st = (t.st : Int) ∧ t.st ≤ code.length)
 nodup : ∀ (i k jb : Nat), jbs[i]? = some jb → jbs[k]? = some jb → i = k
 bt : B ≤ tb
 bg : B ≤ gn ∧ B ≤ gr
 gne : gn ≠ gr
 len : js.length = jbs.length
 ini : js.map Prod.snd = (ts.take jbs.length).map fun t => beginM t.st
variable {tb gn gr n : Nat} {jbs : List Nat} {ts : List JT} {rank : Nat → Nat}
theorem TB.below (h : TB B w tb gn gr n s code u jbs ts rank js) (hb : Below w.heap.size w w') : TB B w' tb gn gr n s code u jbs ts rank js := by
 have hc : Chg (fun _ => False) w w' := Chg.ofBelow hb
 obtain ⟨f, f1, f2⟩ := h.nrow
 obtain ⟨g, g1, g2⟩ := h.rrow
 refine ⟨h.fam.chg hc (fun _ _ => id) (fun _ e => e.elim), h.blk.chg hc id, ⟨f, f1.of_block (hb.block gn f1.lt), f2⟩, ⟨g, g1.of_block (hb.block gr g1.lt), g2⟩, fun i jb hi => ?_, h.nodup, h.bt, h.bg, h.gne, h.len, h.ini⟩
 obtain ⟨a, t, k1, k2, k3, k4⟩ := h.jobs i jb hi
 exact ⟨a, t, k1, k2, k3.chg hc id, k4⟩
theorem TB.add {X : World} {a : JX × MS} {jb : Nat} {t : JT} (h : TB B w tb gn gr n s code u jbs ts rank js) (hb : Below w.heap.size w X) (hf : Fam B X s code u (js ++ [a])) (ht : ts[jbs.length]? = some t) (hj : Blk X jb (jobC a.1.mb t jbs.length false) 170) (hjb : w.heap.size ≤ jb) (hst : a.1.st = (t.st : Int) ∧ t.st ≤ code.length) (ha : a.2 = beginM t.st) (hinj : ∀ i, i < jbs.length → rank i ≠ rank jbs.length) :
  TB B ((X.setCell ⟨gn, jbs.length, none⟩ (jptr jb)).setCell ⟨gr, rank jbs.length, none⟩ (jptr jb)) tb gn gr n s code u (jbs ++ [jb]) ts rank (js ++ [a]) := by
 have h' := h.below hb
 obtain ⟨f, f1, f2⟩ := h'.nrow
 obtain ⟨g, g1, g2⟩ := h'.rrow
 have hBX : B ≤ w.heap.size := by have := h.blk.lt; have := h.bt; omega
 have hc : Chg (fun b => b = gn ∨ b = gr) X ((X.setCell ⟨gn, jbs.length, none⟩ (jptr jb)).setCell ⟨gr, rank jbs.length, none⟩ (jptr jb)) :=
  (((Chg.refl (fun b => b = gn ∨ b = gr) X).setCell (p := ⟨gn, jbs.length, none⟩) (Or.inl rfl) _).setCell (p := ⟨gr, rank jbs.length, none⟩) (Or.inr rfl) _)
 have key : ∀ {b : Nat} {t : TypeId}, TyOf X b t → t ≠ 168 → ¬ (b = gn ∨ b = gr) := fun {b t} ht h1 e => by
  rcases e with e | e
  ·subst e; exact h1 (ht.uniq (ty_row f1))
  ·subst e; exact h1 (ht.uniq (ty_row g1))
 have hfn : ∀ b, famS s (js ++ [a]) b → ¬ (b = gn ∨ b = gr) := fun b hb => by
  rcases hf.ty hb with e | e | e | e
  ·exact key e (by decide)
  ·exact key e (by decide)
  ·exact key e (by decide)
  ·exact key e (by decide)
 have hB : ∀ b, (b = gn ∨ b = gr) → B ≤ b := fun b e => by
  rcases e with e | e
  ·subst e; exact h.bg.1
  ·subst e; exact h.bg.2
 refine ⟨hf.chg hc hfn hB, h'.blk.chg hc (key (ty_blk h'.blk) (by decide)), ⟨_, (f1.set jbs.length (jptr jb)).setOther (by exact h.gne) _, fun i jc hi => ?_⟩, ⟨_, (g1.setOther (by exact h.gne.symm) _).set (rank jbs.length) (jptr jb), fun i jc hi => ?_⟩, fun i jc hi => ?_, fun i k jc hi hk => ?_, h.bt, h.bg, h.gne, by simp [h.len], ?_⟩
 ·rcases get_snoc hi with ⟨hl, hi⟩ | ⟨rfl, rfl⟩
  ·rw [if_neg (by omega)]; exact f2 i jc hi
  ·simp
 ·rcases get_snoc hi with ⟨hl, hi⟩ | ⟨rfl, rfl⟩
  ·rw [if_neg (hinj i hl)]; exact g2 i jc hi
  ·simp
 ·rcases get_snoc hi with ⟨hl, hi⟩ | ⟨rfl, rfl⟩
  ·obtain ⟨c, t', k1, k2, k3, k4⟩ := h'.jobs i jc hi
   exact ⟨c, t', by rw [List.getElem?_append_left (by rw [h.len]; exact hl)]; exact k1, k2, k3.chg hc (key (ty_blk k3) (by decide)), k4⟩
  ·exact ⟨a, t, by rw [← h.len, List.getElem?_append_right (Nat.le_refl _), Nat.sub_self]; rfl, ht, hj.chg hc (key (ty_blk hj) (by decide)), by omega, hst⟩
 ·have old : ∀ (i jd : Nat), jbs[i]? = some jd → jd < w.heap.size := fun i jd hi => by
   obtain ⟨c, t', k1, k2, k3, k4⟩ := h.jobs i jd hi
   exact k3.lt
  rcases get_snoc hi with ⟨hl, hi2⟩ | ⟨e1, f1⟩
  ·rcases get_snoc hk with ⟨hl', hk2⟩ | ⟨_, f2⟩
   ·exact h.nodup i k jc hi2 hk2
   ·have := old i _ hi2; omega
  ·rcases get_snoc hk with ⟨hl', hk2⟩ | ⟨e2, _⟩
   ·have := old k _ hk2; omega
   ·exact e1.trans e2.symm
 ·rw [List.map_append, h.ini, List.length_append, List.length_singleton, List.take_add_one, ht, List.map_append, List.map_singleton, ha]; rfl
theorem TB.all {ls : List (Int × Int)} (h : TB B w tb gn gr n s code u jbs ts (rankP ls) js) (hn : jbs.length = n) (hl : ls.length = n) (h8 : n ≤ 8) (hts : ts.length = n) :
  TAt B w tb gn gr s code u (.slice none 0 0) jbs ts (rksP ls) js (List.replicate n false) [] ∧ js.map Prod.snd = ts.map fun t => beginM t.st := by
 subst hn
 obtain ⟨f, f1, f2⟩ := h.nrow
 obtain ⟨g, g1, g2⟩ := h.rrow
 have hget : ∀ i, i < jbs.length → jbs[i]? = some (jbs.getD i 0) := fun i hi => by simp [hi]
 refine ⟨⟨h.fam, h.blk, row0 _ _ _ _, f1.congr fun i hi => f2 i _ (hget i hi), g1.congr fun i hi => ?_, fun i jb hi => ?_, h.nodup, h.bt, h.bg, ⟨h.len, by simp, h8⟩, fun i hi => ?_⟩, ?_⟩
 ·rw [rks_at (by omega)]
  obtain ⟨a, b⟩ := hold_ok (ls := ls) (p := i) (by omega)
  have := g2 (holdP ls i) _ (hget _ (by omega))
  rw [b] at this
  exact this
 ·obtain ⟨a, t, k1, k2, k3, k4⟩ := h.jobs i jb hi
  exact ⟨a, t, false, k1, k2, by rw [List.getElem?_replicate, if_pos (List.getElem?_eq_some_iff.1 hi).1], k3, k4⟩
 ·rw [rks_at (by omega)]
  obtain ⟨a, b⟩ := hold_ok (ls := ls) (p := i) (by omega)
  omega
 ·rw [h.ini, List.take_of_length_le (by omega)]
end
section
variable {i : Nat} {O : List Int}
end
section
variable {z : SP} {C : Nat → Nat} {es : List PE} {ws : List RW} {nv : Nat} {ls : List (Int × Int)}
end
end Go.Proofs.YtcphhbofjkenaaaGreatDoor
