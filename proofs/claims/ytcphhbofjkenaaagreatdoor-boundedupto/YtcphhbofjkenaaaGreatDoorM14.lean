import Derived.Deep.QuietTactic
import Derived.Test.YtcphhbofjkenaaaGreatDoorM02
import Derived.Test.YtcphhbofjkenaaaGreatDoorM13

namespace Go.Proofs.YtcphhbofjkenaaaGreatDoor
open Go.RowKit
set_option linter.unusedVariables false
set_option linter.unusedSimpArgs false

structure PB where
  opener : Int
  inDo : Bool
  hole : Int
  times : Int
  does : Inf
  other : Inf
  numbers : Int
  a0 : Int
  a1 : Int

def PB.cells (b : PB) : List Value := [.int .i64 b.opener, .bool b.inDo, .int .i64 b.hole, .int .i64 b.times, .int .i64 b.does.need, .int .i64 b.does.net, .int .i64 b.does.high, .int .i64 b.does.steps, .bool (!b.does.str), .int .i64 b.other.need, .int .i64 b.other.net, .int .i64 b.other.high, .int .i64 b.other.steps, .bool (!b.other.str), .int .i64 b.numbers, .int .i64 b.a0, .int .i64 b.a1]
def codeC (l : List Int) : List Value := l.map (Value.int .i64)

def defC (bb : Nat) (tk : Int) (cv bv : Value) (k : Inf) : Array Value := #[.pointer (some ⟨bb, 0, none⟩), .int .i64 tk, cv, bv, .int .i64 k.need, .int .i64 k.net, .int .i64 k.high, .int .i64 k.steps, .bool (!k.str)]

abbrev RC := Array Value × Nat × Array Value
def Rdg (w : World) (rb : Nat) (rc : RC) : Prop := Blk w rb rc.1 199 ∧ Blk w rc.2.1 rc.2.2 163

structure DS (w0 w : World) (rb : Nat) (rc : RC) (bb db : Nat) (ev bcv dcv bv : Value) (es : List PE) (nv nt : Int) (pc dc : List Int) (tk : Int) (bs : List PB) (kn : Inf) : Prop where
  sys : PSys w bb ev bcv es nv nt pc
  blk : Blk w db (defC bb tk dcv bv kn) 209
  cod : w.ownsRow 3 3 1 dcv dc.length (codeC dc)
  row : w.ownsRow w0.heap.size 244 17 bv bs.length (bs.flatMap PB.cells)
  tab : Tab w
  rdr : Rdg w rb rc
  ru : 3 ≤ rb
  tl : 3 ≤ w0.heap.size
  pre : ∃ l, dc = pc ++ l
  new : w0.heap.size ≤ db
  loc : dcv.ownBlock = bcv.ownBlock ∨ ∃ k, dcv.ownBlock = some k ∧ w0.heap.size ≤ k
  frm : Chg (fun b => b = rb ∨ bcv.ownBlock = some b) w0 w

theorem blk_type {w : World} {b : Nat} {cs cs' : Array Value} {t t' : TypeId} (h : Blk w b cs t) (h' : Blk w b cs' t') : t = t' := by
  unfold Blk at h h'; rw [h] at h'; simp at h'; exact h'.2

theorem blk_ne {w : World} {b b' : Nat} {cs cs' : Array Value} {t t' : TypeId} (h : Blk w b cs t) (h' : Blk w b' cs' t') (hne : t ≠ t') : b ≠ b' := by
  rintro rfl; exact hne (blk_type h h')

theorem own_blk {w : World} {base : Nat} {e t : TypeId} {size n b : Nat} {v : Value} {xs : List Value} {cs : Array Value} (h : w.ownsRow base e size v n xs) (hb : Blk w b cs t) (hne : t ≠ e) : v.ownBlock ≠ some b := by
  intro hv
  rcases h.2 with ⟨rfl, _⟩ | ⟨g, cap, cur, rfl, _, hg, _⟩
  · cases hv
  · obtain rfl : g = b := by simpa [Value.ownBlock] using hv
    exact hne (blk_type hb hg)
theorem own_own {w : World} {base base' : Nat} {e e' : TypeId} {size size' n n' : Nat} {v v' : Value} {xs xs' : List Value} (h : w.ownsRow base e size v n xs) (h' : w.ownsRow base' e' size' v' n' xs') (hne : e ≠ e') {k : Nat} (hk : v.ownBlock = some k) : v'.ownBlock ≠ some k := by
  rcases h.2 with ⟨rfl, _⟩ | ⟨g, cap, cur, rfl, _, hg, _⟩
  · cases hk
  · obtain rfl : g = k := by simpa [Value.ownBlock] using hk
    exact own_blk h' (show Blk w g cur e from hg) hne

theorem DS.chg {w0 w w' : World} {rb bb db : Nat} {rc : RC} {ev bcv dcv bv : Value} {es : List PE} {nv nt : Int} {pc dc : List Int} {tk : Int} {bs : List PB} {kn : Inf}
    (h : DS w0 w rb rc bb db ev bcv dcv bv es nv nt pc dc tk bs kn) (hc : Chg (fun b => b = rb) w w') {rc1 : Array Value} (hr : Blk w' rb rc1 199) : DS w0 w' rb (rc1, rc.2) bb db ev bcv dcv bv es nv nt pc dc tk bs kn := by
  have hrb := h.rdr.1
  have hgb := h.rdr.2
  have n1 : bb ≠ rb := by rintro rfl; exact absurd (blk_type h.sys.blk hrb) (by decide)
  have n2 : db ≠ rb := by rintro rfl; exact absurd (blk_type h.blk hrb) (by decide)
  have no : ∀ {base : Nat} {e : TypeId} {size n : Nat} {v : Value} {xs : List Value}, w.ownsRow base e size v n xs → 199 ≠ e → ∀ k, v.ownBlock = some k → ¬ k = rb := fun ho hne k hk e => own_blk ho hrb hne (by rw [hk, e])
  refine ⟨h.sys.chg hc n1 (no h.sys.row (by decide)) (no h.sys.cod (by decide)), h.blk.chg hc n2, ownsRow_chg h.cod hc (no h.cod (by decide)), ownsRow_chg h.row hc (no h.row (by decide)), h.tab.chg hc (fun k e => by have := h.ru; omega), ⟨hr, hgb.chg hc (blk_ne hgb hrb (by decide))⟩, h.ru, h.tl, h.pre, h.new, h.loc, h.frm.trans (hc.mono (fun k _ e => Or.inl e))⟩

theorem DS.guest {w0 w : World} {rb bb db : Nat} {rc : RC} {ev bcv dcv bv : Value} {es : List PE} {nv nt : Int} {pc dc : List Int} {tk : Int} {bs : List PB} {kn : Inf}
    (h : DS w0 w rb rc bb db ev bcv dcv bv es nv nt pc dc tk bs kn) (xb : Nat) (xc : Array Value) (hx : Blk w xb xc 163) : DS w0 w rb (rc.1, xb, xc) bb db ev bcv dcv bv es nv nt pc dc tk bs kn :=
  { h with rdr := ⟨h.rdr.1, hx⟩ }

theorem DS.below {w0 w w' : World} {rb bb db : Nat} {rc : RC} {ev bcv dcv bv : Value} {es : List PE} {nv nt : Int} {pc dc : List Int} {tk : Int} {bs : List PB} {kn : Inf}
    (h : DS w0 w rb rc bb db ev bcv dcv bv es nv nt pc dc tk bs kn) (hb : Below w.heap.size w w') : DS w0 w' rb rc bb db ev bcv dcv bv es nv nt pc dc tk bs kn :=
  h.chg (Chg.ofBelow hb) ((hb.block rb h.rdr.1.lt).trans h.rdr.1)

theorem DS.def {w0 w : World} {rb bb db : Nat} {rc : RC} {ev bcv dcv bv : Value} {es : List PE} {nv nt : Int} {pc dc : List Int} {tk : Int} {bs : List PB} {kn : Inf}
    (h : DS w0 w rb rc bb db ev bcv dcv bv es nv nt pc dc tk bs kn) : w.cell? ⟨db, 0, none⟩ = some (.pointer (some ⟨bb, 0, none⟩)) ∧ w.cell? ⟨db, 1, none⟩ = some (.int .i64 tk) ∧ w.cell? ⟨db, 2, none⟩ = some dcv ∧ w.cell? ⟨db, 3, none⟩ = some bv :=
  ⟨h.blk.cell 0 _ rfl, h.blk.cell 1 _ rfl, h.blk.cell 2 _ rfl, h.blk.cell 3 _ rfl⟩

theorem DS.last {w0 w : World} {rb bb db : Nat} {rc : RC} {ev bcv dcv bv : Value} {es : List PE} {nv nt : Int} {pc dc : List Int} {tk : Int} {bs : List PB} {b : PB} {kn : Inf}
    (h : DS w0 w rb rc bb db ev bcv dcv bv es nv nt pc dc tk (bs ++ [b]) kn) : ∃ g cap, bv = .slice (some ⟨g, 0, none⟩) (bs.length + 1) cap ∧ bs.length + 1 ≤ cap ∧ w0.heap.size ≤ g ∧ g < w.heap.size ∧ (∀ o, w.frozen? ⟨g, o, none⟩ = false) ∧ ∀ j u, b.cells[j]? = some u → w.cell? ⟨g, bs.length * 17 + j, none⟩ = some u := by
  have hr := h.row
  rw [List.length_append, List.length_singleton] at hr
  obtain ⟨g, cap, hv, hb, hg, h1, _, hc⟩ := row_cells hr (by omega)
  refine ⟨g, cap, hv, h1, hb, hg, fun o => ?_, fun j u hu => hc _ _ ?_⟩
  · rcases hr.2 with ⟨_, h0⟩ | ⟨g', cap', cur, hv', _, hh, _⟩
    · omega
    · obtain ⟨rfl, rfl⟩ : g = g' ∧ cap = cap' := by rw [hv] at hv'; simpa using hv'
      simp [World.frozen?, hh]
  · have hl := flat_length PB.cells 17 (fun _ => rfl) bs
    rw [List.flatMap_append, List.getElem?_append_right (by omega), hl, Nat.add_sub_cancel_left]
    simpa using hu

set_option maxHeartbeats 2000000 in
theorem def_inner {w0 w : World} {rb bb db : Nat} {rc : RC} {ev bcv dcv bv : Value} {es : List PE} {nv nt : Int} {pc dc : List Int} {tk : Int} {bs : List PB} {b : PB} {kn : Inf}
    (h : DS w0 w rb rc bb db ev bcv dcv bv es nv nt pc dc tk (bs ++ [b]) kn) (hl : bs.length ≤ 1000000000) (g cap : Nat) (hg : bv = .slice (some ⟨g, 0, none⟩) (bs.length + 1) cap) (hcap : bs.length + 1 ≤ cap) :
    Calls Tryz.prog 180 #[.pointer (some ⟨db, 0, none⟩)] w fun e w' => e = .returned (.pointer (some ⟨g, bs.length * 17, none⟩)) ∧ Below w.heap.size w w' := by
  obtain ⟨c0, c1, c2, c3⟩ := h.def
  rw [hg] at c3
  clear h hg c0 c1 c2
  generalize bs.length = m at *
  have h1 : (m : Int) < (m : Int) + 1 := by omega
  have h2 : (0 : Int) ≤ (m : Int) := by omega
  have h3 : (m : Int) ≤ 1000000000 := by omega
  clear hl
  go_enter Tryz.func180, Tryz.ntmps180
  go_wp2
  go_quiet (fail)
  go_wp2
  go_ret
  exact ⟨rfl, ⟨rfl, rfl, rfl, Nat.le_refl _, fun _ _ => rfl⟩⟩

end Go.Proofs.YtcphhbofjkenaaaGreatDoor

namespace Go.Proofs.YtcphhbofjkenaaaGreatDoor
open Go.RowKit
set_option linter.unusedVariables false
set_option linter.unusedSimpArgs false

structure CU (w w1 : World) (dcv v1 bcv : Value) (pc dc : List Int) : Prop where
  row : w1.ownsRow 3 3 1 v1 dc.length (codeC dc)
  sys : w1.ownsRow 3 3 1 bcv pc.length (codeC pc)
  len : pc.length ≤ dc.length
  chg : Chg (fun b => dcv.ownBlock = some b) w w1
  loc : v1.ownBlock = dcv.ownBlock ∨ ∃ k, v1.ownBlock = some k ∧ w.heap.size ≤ k

theorem CU.alloc {w w1 : World} {dcv v1 bcv : Value} {pc dc : List Int} (h : CU w w1 dcv v1 bcv pc dc) (o : Obj) : CU w (w1.alloc o) dcv v1 bcv pc dc :=
  ⟨ownsRow_chg h.row ((Chg.refl (fun _ => False) w1).alloc o) (fun _ _ => id), ownsRow_chg h.sys ((Chg.refl (fun _ => False) w1).alloc o) (fun _ _ => id), h.len, h.chg.alloc o, h.loc⟩

theorem CU.more {w w1 w2 : World} {dcv v1 v2 bcv : Value} {pc dc l : List Int} (h : CU w w1 dcv v1 bcv pc dc)
    (h2 : w2.ownsRow 3 3 1 v2 (dc.length + l.length) (codeC dc ++ codeC l)) (hg : w1.grownBy w2 v1.ownBlock) (hat : v2.ownBlock = v1.ownBlock ∨ v2.ownBlock = some w1.heap.size) (hk : Keeps w1 w2 3 1 dc.length v1) :
    CU w w2 dcv v2 bcv pc (dc ++ l) := by
  refine ⟨by simpa [codeC] using h2, ownsRow_keep h.row h.sys hg hk (fun _ _ => ⟨rfl, rfl, h.len⟩), by have := h.len; simp; omega, ?_, ?_⟩
  · refine ⟨hg.os.trans h.chg.os, hg.tape.trans h.chg.tape, hg.output.trans h.chg.output, Nat.le_trans h.chg.size hg.size, fun k hk1 hn => ?_⟩
    refine (hg.block k (Nat.lt_of_lt_of_le hk1 h.chg.size) (fun e => ?_)).trans (h.chg.block k hk1 hn)
    rcases h.loc with h1 | ⟨k', h1, h3⟩
    · exact hn (by rw [← h1, ← e])
    · rw [h1] at e; simp at e; omega
  · rcases hat with h1 | h1
    · rw [h1]; exact h.loc
    · exact Or.inr ⟨_, h1, h.chg.size⟩

theorem Chg.thru {S T : Nat → Prop} {w0 w w' : World} (h : Chg S w0 w) (h2 : Chg T w w') (ht : ∀ k, k < w0.heap.size → T k → S k) : Chg S w0 w' :=
  ⟨h2.os.trans h.os, h2.tape.trans h.tape, h2.output.trans h.output, Nat.le_trans h.size h2.size, fun k hk hn => (h2.block k (Nat.lt_of_lt_of_le hk h.size) (fun e => hn (ht k hk e))).trans (h.block k hk hn)⟩

theorem DS.cu {w0 w : World} {rb bb db : Nat} {rc : RC} {ev bcv dcv bv : Value} {es : List PE} {nv nt : Int} {pc dc : List Int} {tk : Int} {bs : List PB} {kn : Inf}
    (h : DS w0 w rb rc bb db ev bcv dcv bv es nv nt pc dc tk bs kn) : CU w w dcv dcv bcv pc dc :=
  ⟨h.cod, h.sys.cod, by obtain ⟨l, rfl⟩ := h.pre; simp, Chg.refl _ _, Or.inl rfl⟩

theorem DS.emit {w0 w w2 : World} {rb bb db : Nat} {rc : RC} {ev bcv dcv v2 bv : Value} {es : List PE} {nv nt : Int} {pc dc l : List Int} {tk : Int} {bs : List PB} {kn : Inf}
    (h : DS w0 w rb rc bb db ev bcv dcv bv es nv nt pc dc tk bs kn) (hc : CU w w2 dcv v2 bcv pc (dc ++ l)) : DS w0 (w2.setCell ⟨db, 2, none⟩ v2) rb rc bb db ev bcv v2 bv es nv nt pc (dc ++ l) tk bs kn := by
  have hrb := h.rdr.1
  have hgb := h.rdr.2
  have nb : dcv.ownBlock ≠ some bb := own_blk h.cod h.sys.blk (by decide)
  have nd : dcv.ownBlock ≠ some db := own_blk h.cod h.blk (by decide)
  have nr : dcv.ownBlock ≠ some rb := own_blk h.cod hrb (by decide)
  have n1 : db ≠ bb := by rintro rfl; exact absurd (blk_type h.blk h.sys.blk) (by decide)
  have n2 : db ≠ rb := by rintro rfl; exact absurd (blk_type h.blk hrb) (by decide)
  have hb2 : Blk w2 db (defC bb tk dcv bv kn) 209 := h.blk.chg hc.chg nd
  have oth : ∀ {base : Nat} {e : TypeId} {size n : Nat} {v : Value} {xs : List Value}, w2.ownsRow base e size v n xs → 209 ≠ e → (w2.setCell ⟨db, 2, none⟩ v2).ownsRow base e size v n xs := fun ho hne =>
    ownsRow_chg ho ((Chg.refl (fun b => b = db) w2).setCell (p := ⟨db, 2, none⟩) rfl _) (fun k hk e => own_blk ho hb2 hne (by rw [hk, e]))
  refine ⟨⟨(h.sys.blk.chg hc.chg nb).setOther n1 _, oth (ownsRow_chg h.sys.row hc.chg (fun k hk e => own_own h.sys.row h.cod (by decide) hk e)) (by decide), oth hc.sys (by decide), h.sys.up⟩, ?_, oth hc.row (by decide),
    oth (ownsRow_chg h.row hc.chg (fun k hk e => own_own h.row h.cod (by decide) hk e)) (by decide), ?_, ⟨(hrb.chg hc.chg nr).setOther n2 _, (hgb.chg hc.chg (own_blk h.cod hgb (by decide))).setOther (blk_ne h.blk hgb (by decide)) _⟩, h.ru, h.tl, ?_, h.new, ?_, ?_⟩
  · have := hb2.set (o := 2) v2; simpa [defC] using this
  · refine (h.tab.chg hc.chg ?_).chg ((Chg.refl (fun b => b = db) w2).setCell (p := ⟨db, 2, none⟩) rfl _) (fun k e => by have := h.new; have := h.tl; omega)
    intro k e
    rcases h.cod.2 with ⟨rfl, _⟩ | ⟨g, cap, cur, rfl, hg, _⟩
    · cases e
    · simp [Value.ownBlock] at e; omega
  · obtain ⟨l0, rfl⟩ := h.pre; exact ⟨l0 ++ l, by simp⟩
  · rcases hc.loc with h1 | ⟨k, h1, h2⟩
    · rw [h1]; exact h.loc
    · exact Or.inr ⟨k, h1, Nat.le_trans h.frm.size h2⟩
  · refine (h.frm.thru hc.chg ?_).thru ((Chg.refl (fun b => b = db) w2).setCell (p := ⟨db, 2, none⟩) rfl _) (fun k hk e => by have := h.new; omega)
    intro k hk e
    rcases h.loc with h1 | ⟨k', h1, h2⟩
    · exact Or.inr (by rw [← h1, e])
    · rw [h1] at e; simp at e; omega

theorem news1 (w : World) (a : Value) (t : TypeId) : ∀ j u, [a][j]? = some u → (w.alloc (.cells #[a] t)).cell? ((⟨w.heap.size, 0, none⟩ : Addr).add j) = some u := by
  intro k u hu
  match k, hu with
  | 0, hu => simp at hu; subst hu; simp [Addr.add]
theorem one1 (k : IntKind) (b : Int) : ∀ u ∈ [Value.int k b], u.oneCell' = true := by
  intro u hu; simp at hu; subst hu; rfl
theorem Tryz.infoInt : (Tryz.prog.info? 3).map (fun i => (i.zero, i.size, i.bytes)) = some (some (.int .i64 0), 1, 8) := by kernel_rfl

def Src1 (w : World) (dcv sv : Value) (l : List Int) : Prop :=
  (sv = .slice none 0 0 ∧ l = []) ∨ ∃ vb x, sv = .slice (some ⟨vb, 0, none⟩) 1 1 ∧ l = [x] ∧ w.cell? ⟨vb, 0, none⟩ = some (.int .i64 x) ∧ vb < w.heap.size ∧ dcv.ownBlock ≠ some vb

set_option maxHeartbeats 4000000 in
theorem def_emit {w0 w : World} {rb bb db : Nat} {rc : RC} {ev bcv dcv bv : Value} {es : List PE} {nv nt : Int} {pc dc : List Int} {tk : Int} {bs : List PB} {kn : Inf}
    (h : DS w0 w rb rc bb db ev bcv dcv bv es nv nt pc dc tk bs kn) (op : Int) (sv : Value) (l : List Int) (hs : Src1 w dcv sv l) (hl : dc.length ≤ 100000000) :
    Calls Tryz.prog 181 #[.pointer (some ⟨db, 0, none⟩), .int .i64 op, sv] w fun e w' => e = .returned (.tuple #[]) ∧ (∃ v2, DS w0 w' rb rc bb db ev bcv v2 bv es nv nt pc (dc ++ op :: l) tk bs kn) ∧ Chg (fun b => b = db ∨ dcv.ownBlock = some b) w w' := by
  obtain ⟨c0, c1, c2, c3⟩ := h.def
  have f2 := h.blk.frozen 2
  have hdl := h.blk.lt
  have hcu := hidden (h.cu.alloc (.cells #[.int .i64 op] 3 (0, 0)))
  have nd : dcv.ownBlock ≠ some db := own_blk h.cod h.blk (by decide)
  obtain ⟨ad, cap, hdv, hcap, _⟩ := row_shape h.cod
  obtain ⟨i0, hi, hz0, hz1, hz2⟩ := info_parts Tryz.infoInt
  have hba : 3 ≤ (w.alloc (.cells #[.int .i64 op] 3 (0, 0))).heap.size := by have := h.tab.lt; simp; omega
  have HBA := hidden hba
  have HD := hidden h
  have HN := hidden nd
  have HS := hidden hs
  clear h c0 c1 c3 nd hs hba
  subst hdv
  go_enter Tryz.func181, Tryz.ntmps181
  go_wp2_with (at_builtin; refine wpList_append_keep _ rfl _ _ 24 rfl 3 3 i0 (.int .i64 0) 1 8 Tryz.underlying24 hi hz0 hz1 hz2 rfl (by decide) _ _ _ rfl hcu.out.row ⟨w.heap.size, 0, none⟩ 1 1 [.int .i64 op] rfl rfl (news1 _ _ _) (one1 _ _) (by unfold maxLen; omega) (by omega) HBA.out ?_)
  intro v1 w1 h2 hg hat hk
  have cu1 := hcu.out.more (l := [op]) (by simpa [codeC] using h2) hg (by simpa using hat) hk
  have hlen1 : (dc ++ [op]).length = dc.length + 1 := by simp
  have hrow1 := cu1.row
  rw [hlen1] at hrow1
  obtain ⟨g1, cap1, hv1, _, hg1, hc1, hm1, _⟩ := row_cells hrow1 (by omega)
  have hd1 : Blk w1 db (defC bb tk (.slice ad dc.length cap) bv kn) 209 := HD.out.blk.chg cu1.chg HN.out
  have HD1 := hidden hd1
  have e2 : w1.cell? ⟨db, 2, none⟩ = some (.slice ad dc.length cap) := hd1.cell 2 _ rfl
  have q2 := hd1.frozen 2
  have HCU := hidden cu1
  have hsz1 : w.heap.size ≤ w1.heap.size := cu1.chg.size
  have hba1 : 3 ≤ w1.heap.size := Nat.le_trans HD.out.tab.lt hsz1
  have HBA1 := hidden hba1
  have HR1 := hidden hrow1
  subst hv1
  clear h2 hg hat hk cu1 hrow1 hd1 hcu HBA c2 f2 hba1
  rcases HS.out with ⟨rfl, rfl⟩ | ⟨vb, x, rfl, rfl, hvb, hvl, hvn⟩
  · clear HS
    go_wp2_with (at_builtin; refine wpList_append_none _ rfl _ _ 24 rfl 3 i0 Tryz.underlying24 hi ⟨g1, 0, none⟩ (dc.length + 1) cap1 rfl hc1 rfl ?_)
    go_wp2_with fail
    go_end0
    refine ⟨rfl, ⟨_, HD.out.emit (l := [op]) HCU.out⟩, ?_⟩
    exact (HCU.out.chg.mono (fun k _ e => Or.inr e)).trans ((Chg.refl (fun b => b = db ∨ (Value.slice ad dc.length cap).ownBlock = some b) w1).setCell (p := ⟨db, 2, none⟩) (Or.inl rfl) _)
  · have hvb1 : w1.cell? ⟨vb, 0, none⟩ = some (.int .i64 x) := (HCU.out.chg.cell (p := ⟨vb, 0, none⟩) hvl hvn).trans hvb
    have hnew : ∀ j u, [Value.int .i64 x][j]? = some u → w1.cell? ((⟨vb, 0, none⟩ : Addr).add j) = some u := by
      intro k u hu
      match k, hu with
      | 0, hu => simp at hu; subst hu; simpa [Addr.add] using hvb1
    have HNW := hidden hnew
    clear HS hvb1 hnew hvb
    go_wp2_with (at_builtin; refine wpList_append_keep _ rfl _ _ 24 rfl 3 3 i0 (.int .i64 0) 1 8 Tryz.underlying24 hi hz0 hz1 hz2 rfl (by decide) _ _ _ rfl HR1.out ⟨vb, 0, none⟩ 1 1 [.int .i64 x] rfl rfl HNW.out (one1 _ _) (by unfold maxLen; omega) (by omega) HBA1.out ?_)
    intro v2 w2 h2 hg hat hk
    have cu2 := HCU.out.more (l := [x]) (by simpa [codeC] using h2) hg hat (by rw [hlen1]; exact hk)
    have hlen2 : (dc ++ [op] ++ [x]).length = dc.length + 1 + 1 := by simp
    have hrow2 := cu2.row
    rw [hlen2] at hrow2
    obtain ⟨g2, cap2, hv2, _⟩ := row_cells hrow2 (by omega)
    have hd2 : Blk w2 db (defC bb tk (.slice ad dc.length cap) bv kn) 209 := HD.out.blk.chg cu2.chg HN.out
    have e3 : w2.cell? ⟨db, 2, none⟩ = some (.slice ad dc.length cap) := hd2.cell 2 _ rfl
    have q3 := hd2.frozen 2
    have HCU2 := hidden cu2
    subst hv2
    clear h2 hg hat hk cu2 hrow2 hd2 HBA1 e2 q2
    go_wp2_with fail
    have hap : dc ++ op :: [x] = dc ++ [op] ++ [x] := by simp
    go_end0
    refine ⟨rfl, ⟨_, HD.out.emit (l := [op, x]) (by rw [hap]; exact HCU2.out)⟩, ?_⟩
    exact (HCU2.out.chg.mono (fun k _ e => Or.inr e)).trans ((Chg.refl (fun b => b = db ∨ (Value.slice ad dc.length cap).ownBlock = some b) w2).setCell (p := ⟨db, 2, none⟩) (Or.inl rfl) _)

end Go.Proofs.YtcphhbofjkenaaaGreatDoor

namespace Go.Proofs.YtcphhbofjkenaaaGreatDoor
open Go.RowKit
set_option linter.unusedVariables false
set_option linter.unusedSimpArgs false

theorem row_set_last {w : World} {base : Nat} {e : TypeId} {size g n cap k : Nat} {F cs : List Value} (h : w.ownsRow base e size (.slice (some ⟨g, 0, none⟩) n cap) n (F ++ cs)) (hF : F.length = k) (j : Nat) (u : Value) :
    (w.setCell ⟨g, k + j, none⟩ u).ownsRow base e size (.slice (some ⟨g, 0, none⟩) n cap) n (F ++ cs.set j u) := by
  have := ownsRow_set h (k + j) u
  rw [List.set_append_right _ _ (by omega), hF, Nat.add_sub_cancel_left] at this
  exact this

theorem DS.setLast {w0 w w' : World} {rb bb db : Nat} {rc : RC} {ev bcv dcv : Value} {es : List PE} {nv nt : Int} {pc dc : List Int} {tk : Int} {bs : List PB} {b b' : PB} {kn : Inf} {g n cap : Nat}
    (h : DS w0 w rb rc bb db ev bcv dcv (.slice (some ⟨g, 0, none⟩) n cap) es nv nt pc dc tk (bs ++ [b]) kn) (hc : Chg (fun k => k = g) w w')
    (hr : w'.ownsRow w0.heap.size 244 17 (.slice (some ⟨g, 0, none⟩) n cap) (bs.length + 1) (bs.flatMap PB.cells ++ b'.cells)) :
    DS w0 w' rb rc bb db ev bcv dcv (.slice (some ⟨g, 0, none⟩) n cap) es nv nt pc dc tk (bs ++ [b']) kn := by
  have hrb := h.rdr.1
  have hgb := h.rdr.2
  have no : ∀ {c : Array Value} {t : TypeId} {k : Nat}, Blk w k c t → t ≠ 244 → ¬ k = g := fun hb hne e => own_blk h.row hb hne (by rw [e]; rfl)
  have n2 : ∀ {base : Nat} {e : TypeId} {size n : Nat} {v : Value} {xs : List Value}, w.ownsRow base e size v n xs → e ≠ 244 → ∀ k, v.ownBlock = some k → ¬ k = g := fun ho hne k hk e => own_own ho h.row hne hk (by rw [e]; rfl)
  have hge : w0.heap.size ≤ g := by
    rcases h.row.2 with ⟨hx, _⟩ | ⟨g', cap', cur, hv, hb, _⟩
    · cases hx
    · obtain ⟨rfl, rfl⟩ : g = g' ∧ cap = cap' := by simp at hv; exact ⟨hv.1, hv.2.2⟩
      exact hb
  refine ⟨h.sys.chg hc (no h.sys.blk (by decide)) (n2 h.sys.row (by decide)) (n2 h.sys.cod (by decide)), h.blk.chg hc (no h.blk (by decide)), ownsRow_chg h.cod hc (n2 h.cod (by decide)), by simpa using hr, h.tab.chg hc (fun k e => by have := h.tl; omega), ⟨hrb.chg hc (no hrb (by decide)), hgb.chg hc (no hgb (by decide))⟩, h.ru, h.tl, h.pre, h.new, h.loc, h.frm.thru hc (fun k hk e => by omega)⟩

def PB.add (b : PB) (i : Inf) : PB := { b with does := b.does.then i, numbers := 0 }

set_option maxHeartbeats 4000000 in
theorem def_add {w0 w : World} {rb bb db : Nat} {rc : RC} {ev bcv dcv bv : Value} {es : List PE} {nv nt : Int} {pc dc : List Int} {tk : Int} {bs : List PB} {b : PB} {kn : Inf}
    (h : DS w0 w rb rc bb db ev bcv dcv bv es nv nt pc dc tk (bs ++ [b]) kn) (i : Inf) (hi : i.Ok) (hd : b.does.Ok) (hl : bs.length ≤ 1000000000) :
    Calls Tryz.prog 182 #[.pointer (some ⟨db, 0, none⟩), i.tm] w fun e w' => e = .returned (.tuple #[]) ∧ DS w0 w' rb rc bb db ev bcv dcv bv es nv nt pc dc tk (bs ++ [b.add i]) kn ∧ Chg (fun k => bv.ownBlock = some k) w w' := by
  obtain ⟨g, cap, hv, hcap, hge, hg, hfr, hcell⟩ := h.last
  have HI := hidden (fun w' (hb : Below w.heap.size w w') => def_inner (h.below (w' := w') hb) hl g cap hv hcap)
  have HT := hidden (fun w' => eff_then b.does i hd hi w')
  have d4 : w.cell? ⟨g, bs.length * 17 + 4, none⟩ = some (.int .i64 b.does.need) := hcell 4 _ rfl
  have d5 : w.cell? ⟨g, bs.length * 17 + 5, none⟩ = some (.int .i64 b.does.net) := hcell 5 _ rfl
  have d6 : w.cell? ⟨g, bs.length * 17 + 6, none⟩ = some (.int .i64 b.does.high) := hcell 6 _ rfl
  have d7 : w.cell? ⟨g, bs.length * 17 + 7, none⟩ = some (.int .i64 b.does.steps) := hcell 7 _ rfl
  have d8 : w.cell? ⟨g, bs.length * 17 + 8, none⟩ = some (.bool (!b.does.str)) := hcell 8 _ rfl
  have d14 : w.cell? ⟨g, bs.length * 17 + 14, none⟩ = some (.int .i64 b.numbers) := hcell 14 _ rfl
  subst hv
  have HD := hidden h
  clear h hcell
  simp only [Inf.tm] at HT ⊢
  go_enter Tryz.func182, Tryz.ntmps182
  go_wp2_with fail
  have hb0 : Below w.heap.size w (w.alloc (.cells #[.int .i64 i.need, .int .i64 i.net, .int .i64 i.high, .int .i64 i.steps, .bool (!i.str)] 151 (0, 0))) := (Below.refl _ _).alloc (Nat.le_refl _) _
  have hk0 := blk_new w #[.int .i64 i.need, .int .i64 i.net, .int .i64 i.high, .int .i64 i.steps, .bool (!i.str)] 151
  refine (HI.out _ hb0).mono ?_
  rintro e w1 ⟨rfl, hb1⟩
  have hk1 := hk0.sub hb1 (by simp)
  have hlt1 := hk1.lt
  have hbw : Below w.heap.size w w1 := hb0.trans (hb1.mono (by simp))
  have i0 := hk1.cell 0 _ rfl; have i1 := hk1.cell 1 _ rfl; have i2 := hk1.cell 2 _ rfl; have i3 := hk1.cell 3 _ rfl; have i4 := hk1.cell 4 _ rfl
  simp only [List.getElem_toArray, List.getElem_cons_succ, List.getElem_cons_zero] at i0 i1 i2 i3 i4
  replace d4 := (hbw.cell (p := ⟨g, bs.length * 17 + 4, none⟩) hg).trans d4
  replace d5 := (hbw.cell (p := ⟨g, bs.length * 17 + 5, none⟩) hg).trans d5
  replace d6 := (hbw.cell (p := ⟨g, bs.length * 17 + 6, none⟩) hg).trans d6
  replace d7 := (hbw.cell (p := ⟨g, bs.length * 17 + 7, none⟩) hg).trans d7
  replace d8 := (hbw.cell (p := ⟨g, bs.length * 17 + 8, none⟩) hg).trans d8
  replace d14 := (hbw.cell (p := ⟨g, bs.length * 17 + 14, none⟩) hg).trans d14
  have HBW := hidden hbw
  have hgw1 : g < w1.heap.size := Nat.lt_of_lt_of_le hg hbw.size
  clear hb0 hk0 hb1 hk1 hbw HI
  go_wp2_with fail
  have hc := fun (B : Nat) (w0 : World) (u : Und B w0) (b o : Nat) (h : b < B) => u.cell b o h
  have hne := Und.ne
  refine wp_region_und_tail w1.heap.size 7 (by kernel_rfl) (by kernel_rfl) ?_
  simp only [List.take_succ_cons, List.take_zero, List.drop_succ_cons, List.drop_zero]
  repeat (go_big_quiet_step ((go_at_call 203; exact Und.calls (Nat.le_refl _) _ (HT.out _))))
  refine wpQuiet_nil ?_
  intro u
  obtain ⟨w2, hb2⟩ := u
  dsimp only
  replace d4 := (hb2.cell (p := ⟨g, bs.length * 17 + 4, none⟩) hgw1).trans d4
  replace d5 := (hb2.cell (p := ⟨g, bs.length * 17 + 5, none⟩) hgw1).trans d5
  replace d6 := (hb2.cell (p := ⟨g, bs.length * 17 + 6, none⟩) hgw1).trans d6
  replace d7 := (hb2.cell (p := ⟨g, bs.length * 17 + 7, none⟩) hgw1).trans d7
  replace d8 := (hb2.cell (p := ⟨g, bs.length * 17 + 8, none⟩) hgw1).trans d8
  replace d14 := (hb2.cell (p := ⟨g, bs.length * 17 + 14, none⟩) hgw1).trans d14
  have hbw2 : Below w.heap.size w w2 := HBW.out.trans (hb2.mono HBW.out.size)
  have hfr2 : ∀ o, w2.frozen? ⟨g, o, none⟩ = false := fun o => (hbw2.frozen (p := ⟨g, o, none⟩) hg).trans (hfr o)
  have q4 := hfr2 (bs.length * 17 + 4); have q5 := hfr2 (bs.length * 17 + 5); have q6 := hfr2 (bs.length * 17 + 6); have q7 := hfr2 (bs.length * 17 + 7); have q8 := hfr2 (bs.length * 17 + 8); have q14 := hfr2 (bs.length * 17 + 14)
  have HB2 := hidden hbw2
  clear hc hne hb2 hbw2 hfr2 hfr i0 i1 i2 i3 i4 HT
  obtain ⟨r, hr⟩ : ∃ r, r = b.does.then i := ⟨_, rfl⟩
  have HRR := hidden hr
  rw [← hr]
  clear hr
  go_wp2_with fail
  go_end0
  have hds := HD.out.below HB2.out
  have hrow := hds.row
  rw [List.length_append, List.length_singleton, List.flatMap_append, List.flatMap_singleton] at hrow
  have hF := flat_length PB.cells 17 (fun _ => rfl) bs
  have s1 := row_set_last hrow hF 4 (.int .i64 r.need)
  have s2 := row_set_last s1 hF 5 (.int .i64 r.net)
  have s3 := row_set_last s2 hF 6 (.int .i64 r.high)
  have s4 := row_set_last s3 hF 7 (.int .i64 r.steps)
  have s5 := row_set_last s4 hF 8 (.bool (!r.str))
  have s6 := row_set_last s5 hF 14 (.int .i64 0)
  have hch : ∀ {V : World}, V = (((((w2.setCell ⟨g, bs.length * 17 + 4, none⟩ (.int .i64 r.need)).setCell ⟨g, bs.length * 17 + 5, none⟩ (.int .i64 r.net)).setCell ⟨g, bs.length * 17 + 6, none⟩ (.int .i64 r.high)).setCell ⟨g, bs.length * 17 + 7, none⟩ (.int .i64 r.steps)).setCell ⟨g, bs.length * 17 + 8, none⟩ (.bool (!r.str))).setCell ⟨g, bs.length * 17 + 14, none⟩ (.int .i64 0) → Chg (fun k => k = g) w2 V := by
    rintro V rfl
    exact ((((((Chg.refl (fun k => k = g) w2).setCell (p := ⟨g, bs.length * 17 + 4, none⟩) rfl _).setCell (p := ⟨g, bs.length * 17 + 5, none⟩) rfl _).setCell (p := ⟨g, bs.length * 17 + 6, none⟩) rfl _).setCell (p := ⟨g, bs.length * 17 + 7, none⟩) rfl _).setCell (p := ⟨g, bs.length * 17 + 8, none⟩) rfl _).setCell (p := ⟨g, bs.length * 17 + 14, none⟩) rfl _
  refine ⟨rfl, hds.setLast (b' := b.add i) (hch rfl) ?_, ?_⟩
  · have e : (((((b.cells.set 4 (.int .i64 r.need)).set 5 (.int .i64 r.net)).set 6 (.int .i64 r.high)).set 7 (.int .i64 r.steps)).set 8 (.bool (!r.str))).set 14 (.int .i64 0) = (b.add i).cells := by
      rw [HRR.out]; rfl
    rw [e] at s6; exact s6
  · exact (Chg.ofBelow HB2.out).trans ((hch rfl).mono (fun k _ e => by rw [e]; rfl))

end Go.Proofs.YtcphhbofjkenaaaGreatDoor
