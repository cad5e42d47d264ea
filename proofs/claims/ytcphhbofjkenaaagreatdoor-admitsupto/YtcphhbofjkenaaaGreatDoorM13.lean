/- The document's answer: an if. -/
import Derived.Deep.DeepCutAuto
import Derived.Test.YtcphhbofjkenaaaGreatDoorM09
import Derived.Test.YtcphhbofjkenaaaGreatDoorM12

namespace Go.Proofs.YtcphhbofjkenaaaGreatDoor
open Go.RowKit
set_option linter.unusedVariables false
set_option linter.unusedSimpArgs false
attribute [local go_sem] quietF

/-- What an if gives, behind its first token: the item and how far; or an error and its place. -/
def pBr (ws : List RW) (toks : List Tk) (fin : Int) (f : Nat) (loops : Int) (I : Nat) : (AI × Nat) ⊕ (Int × Int) :=
  match pItems ws toks fin f [tElse, tThen] loops [] I with
  | .inr r => .inr r
  | .inl (la, ta, I1) =>
    if (ta.toList == [101, 108, 115, 101]) = true then
      match pItems ws toks fin f [tThen] loops [] I1 with
      | .inr r => .inr r
      | .inl (lb, _, I2) => if (infL la).net = (infL lb).net then .inl (⟨none, (Inf.plain 1 0).then ((infL la).more.ways (infL lb))⟩, I2) else .inr (6, plc toks fin (I2 - 1))
    else if (infL la).net = 0 then .inl (⟨none, (Inf.plain 1 0).then ((infL la).ways Inf.zero)⟩, I1) else .inr (6, plc toks fin (I1 - 1))

def BranchPost (rb sb : Nat) (tv sv : Value) (ws : List RW) (c k : Int) (fin A : Int) (w : World) (r : (AI × Nat) ⊕ (Int × Int)) (e : Ending) (w' : World) : Prop :=
  match r with
  | .inl (x, I) => ∃ xs F, e = .returned (.agg xs) ∧ five xs ∧ kindOk xs x ∧ Blk w' rb (rdr sb tv I fin 0 A) 181 ∧ Chg (fun b => b = rb) w w' ∧ (∀ b, F b → w.heap.size ≤ b ∧ b < w'.heap.size) ∧ ItemOk sb sv ws c k F w' xs x.inf
  | .inr (E, P) => ∃ (xs : Array Value) (I : Nat), e = .returned (.agg xs) ∧ five xs ∧ E ≠ 0 ∧ Blk w' rb (rdr sb tv I fin E P) 181 ∧ Chg (fun b => b = rb) w w'

def item4 : Array Value := #[.int .i64 4, .int .i64 0, .string ⟨#[]⟩, .slice none 0 0, .slice none 0 0]
theorem Blk.item4 {w : World} {b : Nat} {t : TypeId} (h : Blk w b item4 t) : w.cell? ⟨b, 0, none⟩ = some (.int .i64 4) ∧ w.cell? ⟨b, 1, none⟩ = some (.int .i64 0) ∧ w.cell? ⟨b, 2, none⟩ = some (.string ⟨#[]⟩) ∧ w.cell? ⟨b, 3, none⟩ = some (.slice none 0 0) ∧ w.cell? ⟨b, 4, none⟩ = some (.slice none 0 0) :=
  ⟨h.cell 0 _ rfl, h.cell 1 _ rfl, h.cell 2 _ rfl, h.cell 3 _ rfl, h.cell 4 _ rfl⟩

theorem zero_facts {wp w' : World} (g : Nat) (hb : Below wp.heap.size wp w') : (g < wp.heap.size → w'.cell? ⟨g, 0, none⟩ = wp.cell? ⟨g, 0, none⟩) ∧ (g < wp.heap.size → w'.cell? ⟨g, 1, none⟩ = wp.cell? ⟨g, 1, none⟩) ∧ (g < wp.heap.size → w'.cell? ⟨g, 2, none⟩ = wp.cell? ⟨g, 2, none⟩) ∧ (g < wp.heap.size → w'.cell? ⟨g, 3, none⟩ = wp.cell? ⟨g, 3, none⟩) ∧ (g < wp.heap.size → w'.cell? ⟨g, 4, none⟩ = wp.cell? ⟨g, 4, none⟩) ∧ (g < wp.heap.size → w'.frozen? ⟨g, 0, none⟩ = wp.frozen? ⟨g, 0, none⟩) ∧ (g < wp.heap.size → w'.frozen? ⟨g, 1, none⟩ = wp.frozen? ⟨g, 1, none⟩) ∧ (g < wp.heap.size → w'.frozen? ⟨g, 2, none⟩ = wp.frozen? ⟨g, 2, none⟩) ∧ (g < wp.heap.size → w'.frozen? ⟨g, 3, none⟩ = wp.frozen? ⟨g, 3, none⟩) ∧ (g < wp.heap.size → w'.frozen? ⟨g, 4, none⟩ = wp.frozen? ⟨g, 4, none⟩) :=
  ⟨fun h => hb.cell (p := ⟨g, 0, none⟩) h, fun h => hb.cell (p := ⟨g, 1, none⟩) h, fun h => hb.cell (p := ⟨g, 2, none⟩) h, fun h => hb.cell (p := ⟨g, 3, none⟩) h, fun h => hb.cell (p := ⟨g, 4, none⟩) h, fun h => hb.frozen (p := ⟨g, 0, none⟩) h, fun h => hb.frozen (p := ⟨g, 1, none⟩) h, fun h => hb.frozen (p := ⟨g, 2, none⟩) h, fun h => hb.frozen (p := ⟨g, 3, none⟩) h, fun h => hb.frozen (p := ⟨g, 4, none⟩) h⟩
theorem sx_of {W w' : World} {a b : Addr} {x y : Value} (h1 : W.cell? a = some x) (h2 : W.cell? b = some y) (h : Below W.heap.size W w') : w'.cell? a = some x ∧ w'.cell? b = some y ∧ Below W.heap.size W w' :=
  ⟨(h.cell (World.block_lt_of_cell? W a h1)).trans h1, (h.cell (World.block_lt_of_cell? W b h2)).trans h2, h⟩
theorem sx_get {W w' : World} {a b : Addr} {x y : Value} (h : w'.cell? a = some x ∧ w'.cell? b = some y ∧ Below W.heap.size W w') : Below W.heap.size W w' := h.2.2
theorem sx_call {W wp w' : World} {a b : Addr} {x y : Value} (h1 : W.cell? a = some x) (h2 : W.cell? b = some y) (hb : Below wp.heap.size wp w') (h : wp.cell? a = some x ∧ wp.cell? b = some y ∧ Below W.heap.size W wp) : w'.cell? a = some x ∧ w'.cell? b = some y ∧ Below W.heap.size W w' :=
  sx_of h1 h2 (h.2.2.trans (hb.mono h.2.2.size))
theorem sx_alloc {W wp : World} {a b : Addr} {x y : Value} (h1 : W.cell? a = some x) (h2 : W.cell? b = some y) (h : wp.cell? a = some x ∧ wp.cell? b = some y ∧ Below W.heap.size W wp) (o : Obj) : (wp.alloc o).cell? a = some x ∧ (wp.alloc o).cell? b = some y ∧ Below W.heap.size W (wp.alloc o) :=
  sx_of h1 h2 (h.2.2.alloc h.2.2.size o)
theorem sx_set5 {W wp : World} {a b : Addr} {x y : Value} {g : Nat} (h1 : W.cell? a = some x) (h2 : W.cell? b = some y) (h : wp.cell? a = some x ∧ wp.cell? b = some y ∧ Below W.heap.size W wp) (hg : W.heap.size ≤ g) (b0 b1 b2 b3 b4 : Value) :
    (((((wp.setCell ⟨g, 0, none⟩ b0).setCell ⟨g, 1, none⟩ b1).setCell ⟨g, 2, none⟩ b2).setCell ⟨g, 3, none⟩ b3).setCell ⟨g, 4, none⟩ b4).cell? a = some x ∧
    (((((wp.setCell ⟨g, 0, none⟩ b0).setCell ⟨g, 1, none⟩ b1).setCell ⟨g, 2, none⟩ b2).setCell ⟨g, 3, none⟩ b3).setCell ⟨g, 4, none⟩ b4).cell? b = some y ∧
    Below W.heap.size W (((((wp.setCell ⟨g, 0, none⟩ b0).setCell ⟨g, 1, none⟩ b1).setCell ⟨g, 2, none⟩ b2).setCell ⟨g, 3, none⟩ b3).setCell ⟨g, 4, none⟩ b4) :=
  sx_of h1 h2 (((((h.2.2.setCell hg b0).setCell hg b1).setCell hg b2).setCell hg b3).setCell hg b4)

theorem all_nil (sb : Nat) (w : World) : Calls Tryz.prog 130 #[.pointer (some ⟨sb, 0, none⟩), .slice none 0 0] w fun e w' => e = .returned (.agg #[.int .i64 0, .int .i64 0, .int .i64 0, .int .i64 0, .bool true]) ∧ Below w.heap.size w w' :=
  ref_all sb 0 0 none (fun _ => Inf.zero) (fun _ => #[]) w (by omega) (by omega) (fun j hj => by omega) (fun j hj => by
    have : j = 0 := by omega
    subst this
    exact Inf.Wt.zero.ok (by omega) (by omega)) (fun j hj => by omega) (fun j hj => by omega)

theorem some_lt {w w' : World} {b : Nat} (h : w'.heap[b]? = w.heap[b]?) (hb : b < w.heap.size) : b < w'.heap.size := by
  rw [Array.getElem?_eq_getElem hb] at h
  exact (Array.getElem?_eq_some_iff.1 h).1

/-- What is known of items that lie in memory, in every later world in which they stand. -/
theorem ItemsAt.later {sb : Nat} {sv : Value} {ws : List RW} {sc sk : Int} {w : World} {base : Nat} {v : Value} {l : List AI} {xs : List (Array Value)} {F : Nat → Prop} {q : Nat}
    (h : ItemsAt sb sv ws sc sk w base v l xs F) (hw : WtL l q) (hq : q ≤ 10000000) (hl : l.length ≤ 1100000) (w' : World)
    (h1 : ∀ k, (F k ∨ v.ownBlock = some k) → w'.heap[k]? = w.heap[k]?) (hsz : w.heap.size ≤ w'.heap.size ∨ True) (h3 : RefSys w' sb sv ws sc sk) (w2 : World) (hb : Below w'.heap.size w' w2) :
    Calls Tryz.prog 130 #[.pointer (some ⟨sb, 0, none⟩), v] w2 fun e w'' => e = .returned (infL l).val ∧ Below w2.heap.size w2 w'' := by
  refine h.all' hw hq hl w2 (fun k hk => ?_) (fun k hk => ?_) (h3.chg (Chg.ofBelow (S := fun _ => False) hb) id (fun _ _ => id))
  · have e := h1 k (Or.inl hk)
    exact (hb.block k (some_lt e (h.fp k hk).2.1)).trans e
  · have e := h1 k (Or.inr hk)
    exact (hb.block k (some_lt e (own_lt h.row hk))).trans e

theorem two_cells (w : World) (a b : ByteArray) (t : TypeId) : ∀ j (h : j < [a, b].length), (w.alloc (.cells #[.string a, .string b] t)).cell? ⟨w.heap.size, j, none⟩ = some (.string [a, b][j]) := by
  intro j h
  match j, h with
  | 0, _ => simp
  | 1, _ => simp

set_option maxHeartbeats 4000000 in
set_option maxRecDepth 100000 in
theorem ref_branch (n : Nat) (ih : ItemsSaid n) (rb sb : Nat) (tv sv : Value) (toks : List Tk) (ws : List RW) (c k : Int) (I f : Nat) (fin A loops : Int) (w : World)
    (hR : Rd w rb sb tv sv toks ws c k) (hb : Blk w rb (rdr sb tv I fin 0 A) 181) (hn : toks.length + 1 - I ≤ n) (hf : toks.length + 1 - I ≤ f) (hI : I ≤ toks.length)
    (hl : 0 ≤ loops) (hl2 : loops + (toks.length + 1 - I : Nat) ≤ 10000000) :
    Calls Tryz.prog 168 #[.pointer (some ⟨rb, 0, none⟩), .int .i64 loops] w (BranchPost rb sb tv sv ws c k fin A w (pBr ws toks fin f loops I)) := by
  obtain ⟨R, hr⟩ : ∃ R, R = pBr ws toks fin f loops I := ⟨_, rfl⟩
  rw [← hr]
  have HR := hidden hR; have HB := hidden hb; have HRR := hidden hr; have IH := hidden ih
  have hlt := hb.lt
  have hfew := hR.few
  clear hr hR hb
  go_enter Tryz.func168, Tryz.ntmps168
  go_wp2_with fail
  have hW : Chg (fun b => b = rb) w (((w.alloc (.cells item0 249 (0, 0))).alloc (.cells item4 249 (0, 0))).alloc (.cells #[.string tElse, .string tThen] 9 (0, 0))) := (((Chg.refl (fun b => b = rb) w).alloc _).alloc _).alloc _
  have hI1 := IH.out rb sb tv sv toks ws c k I f fin A loops [tElse, tThen] (w.heap.size + 1 + 1) 2 _ (HR.out.chg hW) (((HB.out.alloc _).alloc _).alloc _) hn hf hI hl hl2 (by decide) (by decide) (by omega) (by
    have := two_cells ((w.alloc (.cells item0 249 (0, 0))).alloc (.cells item4 249 (0, 0))) tElse tThen 9
    simpa using this)
  refine hI1.mono ?_
  have HW := hidden hW
  clear hI1 hW
  intro e w1 hP
  obtain ⟨p, hp⟩ : ∃ p, p = pItems ws toks fin f [tElse, tThen] loops [] I := ⟨_, rfl⟩
  rw [← hp] at hP
  rcases p with ⟨la, ta, I1⟩ | ⟨E, P⟩
  · obtain ⟨v, xs, F, rfl, hB1, hC1, hAt⟩ := hP
    obtain ⟨ad, cap, rfl, hcap, hcap2⟩ := row_shape hAt.row
    have hC := HW.out.trans hC1
    have hz0 : Blk w1 w.heap.size item0 249 := ((blk_new w item0 249).alloc _ |>.alloc _).chg hC1 (by omega)
    have hz1 : Blk w1 (w.heap.size + 1) item4 249 := (Blk.alloc (by have := blk_new (w.alloc (.cells item0 249 (0, 0))) item4 249; simpa using this) _).chg hC1 (by omega)
    have hs1 : w.heap.size + 1 + 1 + 1 ≤ w1.heap.size := by have := hC1.size; simpa using this
    obtain ⟨e0, e1, e2, e3, e4⟩ := hz1.item4
    obtain ⟨f0, f1, f2, f3, f4⟩ := hz1.free
    obtain ⟨r0, r1, r2, r3, r4, r5⟩ := hB1.rdr
    have hRd1 := HR.out.chg hC
    by_cases hel : (ta.toList == [101, 108, 115, 101]) = true
    · have hp1 := pItems_ok ws toks fin HR.out.wok f [tElse, tThen] loops [] I _ _ _ hp.symm ends1 (WtL.nil 0)
      simp only [List.length_nil, Nat.zero_add] at hp1
      have H1 := hidden hp1
      have hq1 : I < I1 := hp1.1
      have hq2 : I1 ≤ toks.length := hp1.2.1
      clear hp1
      obtain ⟨W, hWd⟩ : ∃ W : World, W = (w1.setCell ⟨w.heap.size + 1, 3, none⟩ (.slice ad la.length cap)).setCell ⟨w.heap.size + 1, 0, none⟩ (.int .i64 5) := ⟨_, rfl⟩
      have hCW : Chg (fun b => b = w.heap.size + 1) w1 W := by rw [hWd]; exact ((Chg.refl (fun b => b = w.heap.size + 1) w1).setCell (p := ⟨w.heap.size + 1, 3, none⟩) rfl _).setCell (p := ⟨w.heap.size + 1, 0, none⟩) rfl _
      have hsW : w1.heap.size = W.heap.size := by rw [hWd]; simp [World.setCell]
      have hbx : Blk W (w.heap.size + 1) #[.int .i64 5, .int .i64 0, .string ⟨#[]⟩, .slice ad la.length cap, .slice none 0 0] 249 := by
        rw [hWd]; have := (hz1.set (o := 3) (.slice ad la.length cap)).set (o := 0) (.int .i64 5); simpa [item4] using this
      have hbr : Blk W rb (rdr sb tv I1 fin 0 A) 181 := hB1.chg hCW (by omega)
      have hbz : Blk W w.heap.size item0 249 := hz0.chg hCW (by omega)
      have hCWw : Chg (fun b => b = rb) w W := hC.trans_ge (hCW.mono (fun k _ hk => by omega))
      have hV : Chg (fun b => b = rb) w (W.alloc (.cells #[.string tThen] 9 (0, 0))) := hCWw.alloc _
      have hI2 := IH.out rb sb tv sv toks ws c k I1 f fin A loops [tThen] W.heap.size 1 _ (HR.out.chg hV) (hbr.alloc _) (by omega) (by omega) hq2 hl (by omega) (by decide) (by decide) (by have := hCWw.size; omega) (by
        intro j hj
        have hj0 : j = 0 := by simp at hj; omega
        subst hj0
        simp)
      have HI2 := hidden hI2
      have HAT := hidden hAt; have HP := hidden hp; have HBX := hidden hbx; have HBZ := hidden hbz; have HCW := hidden hCWw; have HCW1 := hidden hCW; have HV := hidden hV; have HWD := hidden hWd; have HC := hidden hC
      have HAT_lo : ∀ b, (F b ∨ (Value.slice ad la.length cap).ownBlock = some b) → w.heap.size + 1 + 1 + 1 ≤ b ∧ b < w1.heap.size := by
        rintro b (hb | hb)
        · have := hAt.fp b hb; exact ⟨by have := this.1; simpa using this, this.2.1⟩
        · have := own_base hAt.row hb; exact ⟨by simpa using this, own_lt hAt.row hb⟩
      have HLO := hidden HAT_lo
      clear hAt hp hbx hbr hbz hCWw hCW hV hI2 HAT_lo hC hC1 hz0 hz1 hB1 hRd1
      go_wp2_with fail
      rw [← hWd]
      clear hWd
      go_wp2_with fail
      refine HI2.out.mono ?_
      clear e0 e1 e2 e3 e4 f0 f1 f2 f3 f4 r0 r1 r2 r3 r4 r5
      intro e w5 hP2
      obtain ⟨p2, hp2⟩ : ∃ p2, p2 = pItems ws toks fin f [tThen] loops [] I1 := ⟨_, rfl⟩
      rw [← hp2] at hP2
      rcases p2 with ⟨lb, tb, I2⟩ | ⟨E, P⟩
      · obtain ⟨v2, xs2, F2, rfl, hB5, hC5, hAt2⟩ := hP2
        obtain ⟨ad2, cap2, rfl, hcap5, hcap6⟩ := row_shape hAt2.row
        have hp5 := pItems_ok ws toks fin HR.out.wok f [tThen] loops [] I1 _ _ _ hp2.symm ends2 (WtL.nil 0)
        simp only [List.length_nil, Nat.zero_add] at hp5
        have H2 := hidden hp5
        have hq3 : I1 < I2 := hp5.1
        have hq4 : I2 ≤ toks.length := hp5.2.1
        have hs5 : W.heap.size + 1 ≤ w5.heap.size := by have := hC5.size; simpa using this
        have hsWw : w.heap.size + 1 + 1 + 1 ≤ W.heap.size := by omega
        obtain ⟨X, hXd⟩ : ∃ X : World, X = w5.setCell ⟨w.heap.size + 1, 4, none⟩ (.slice ad2 lb.length cap2) := ⟨_, rfl⟩
        have hCX : Chg (fun b => b = w.heap.size + 1) w5 X := by rw [hXd]; exact (Chg.refl (fun b => b = w.heap.size + 1) w5).setCell (p := ⟨w.heap.size + 1, 4, none⟩) rfl _
        have hsX : w5.heap.size = X.heap.size := by rw [hXd]; simp [World.setCell]
        have hz1 : Blk w5 (w.heap.size + 1) #[.int .i64 5, .int .i64 0, .string ⟨#[]⟩, .slice ad la.length cap, .slice none 0 0] 249 := (HBX.out.alloc _).chg hC5 (by omega)
        obtain ⟨f0, f1, f2, f3, f4⟩ := hz1.free
        have x4' : w5.cell? ⟨w.heap.size + 1, 4, none⟩ = some (.slice none 0 0) := hz1.cell 4 _ rfl
        have hbx : Blk X (w.heap.size + 1) #[.int .i64 5, .int .i64 0, .string ⟨#[]⟩, .slice ad la.length cap, .slice ad2 lb.length cap2] 249 := by
          rw [hXd]; have := hz1.set (o := 4) (.slice ad2 lb.length cap2); simpa using this
        have hbr : Blk X rb (rdr sb tv I2 fin 0 A) 181 := hB5.chg hCX (by omega)
        have hbz : Blk X w.heap.size item0 249 := ((HBZ.out.alloc _).chg hC5 (by omega)).chg hCX (by omega)
        have hCXw : Chg (fun b => b = rb) w X := (HV.out.trans hC5).trans_ge (hCX.mono (fun k _ hk => by omega))
        have hLO2 : ∀ b, (F2 b ∨ (Value.slice ad2 lb.length cap2).ownBlock = some b) → W.heap.size + 1 ≤ b ∧ b < w5.heap.size := by
          rintro b (hb | hb)
          · have := hAt2.fp b hb; exact ⟨by have := this.1; simpa using this, this.2.1⟩
          · have := own_base hAt2.row hb; exact ⟨by simpa using this, own_lt hAt2.row hb⟩
        have eqA : ∀ b, (F b ∨ (Value.slice ad la.length cap).ownBlock = some b) → X.heap[b]? = w1.heap[b]? := fun b hb => by
          have hq := HLO.out b hb
          rw [hCX.block b (by omega) (by omega), hC5.block b (by simp; omega) (by omega), Below.heap_alloc _ _ _ (by omega), HCW1.out.block b (by omega) (by omega)]
        have eqB : ∀ b, (F2 b ∨ (Value.slice ad2 lb.length cap2).ownBlock = some b) → X.heap[b]? = w5.heap[b]? := fun b hb => by
          have hq := hLO2 b hb
          rw [hCX.block b (by omega) (by omega)]
        obtain ⟨pa, hpa⟩ : ∃ p, p = infL la := ⟨_, rfl⟩
        obtain ⟨pb, hpb⟩ : ∃ p, p = infL lb := ⟨_, rfl⟩
        have hallA : ∀ w', Below X.heap.size X w' → Calls Tryz.prog 130 #[.pointer (some ⟨sb, 0, none⟩), .slice ad la.length cap] w' fun e w'' => e = .returned (.agg #[.int .i64 pa.need, .int .i64 pa.net, .int .i64 pa.high, .int .i64 pa.steps, .bool pa.str]) ∧ Below w'.heap.size w' w'' := by
          rw [hpa]
          exact fun w' hb' => HAT.out.later H1.out.2.2.2 (by omega) (by have := H1.out.2.2.1; omega) X eqA (Or.inr trivial) (HR.out.chg hCXw).sys w' hb'
        have hallB : ∀ w', Below X.heap.size X w' → Calls Tryz.prog 130 #[.pointer (some ⟨sb, 0, none⟩), .slice ad2 lb.length cap2] w' fun e w'' => e = .returned (.agg #[.int .i64 pb.need, .int .i64 pb.net, .int .i64 pb.high, .int .i64 pb.steps, .bool pb.str]) ∧ Below w'.heap.size w' w'' := by
          rw [hpb]
          exact fun w' hb' => hAt2.later H2.out.2.2.2 (by omega) (by have := H2.out.2.2.1; omega) X eqB (Or.inr trivial) (HR.out.chg hCXw).sys w' hb'
        have HA := hidden hallA; have HBB := hidden hallB; have HPA := hidden hpa; have HPB := hidden hpb; have HAT2 := hidden hAt2; have HP2 := hidden hp2
        have KX := hidden hbx; have KR := hidden hbr; have KZ := hidden hbz; have KC := hidden hCXw; have EA := hidden eqA; have EB := hidden eqB; have HLO2 := hidden hLO2
        obtain ⟨r0, r1, r2, r3, r4, r5⟩ := hB5.rdr
        clear hallA hallB hpa hpb hAt2 hp2 hbx hbr hbz hCXw eqA eqB hLO2 hz1 hCX hC5 hp5 hB5
        go_wp2_with fail
        rw [← hXd]
        clear hXd x4' f0 f1 f2 f3 f4 r0 r1 r2 r3 r4 r5
        obtain ⟨r0, r1, r2, r3, r4, r5⟩ := KR.out.rdr
        have x0 : X.cell? ⟨w.heap.size + 1, 0, none⟩ = some (.int .i64 5) := KX.out.cell 0 _ rfl
        have x1 : X.cell? ⟨w.heap.size + 1, 1, none⟩ = some (.int .i64 0) := KX.out.cell 1 _ rfl
        have x2 : X.cell? ⟨w.heap.size + 1, 2, none⟩ = some (.string ⟨#[]⟩) := KX.out.cell 2 _ rfl
        have x3 : X.cell? ⟨w.heap.size + 1, 3, none⟩ = some (.slice ad la.length cap) := KX.out.cell 3 _ rfl
        have x4 : X.cell? ⟨w.heap.size + 1, 4, none⟩ = some (.slice ad2 lb.length cap2) := KX.out.cell 4 _ rfl
        have hne := UndA.ne X.heap.size X zero5 36 (Nat.le_refl _)
        have hcr : ∀ (S : Option Nat) (u : UndA X.heap.size X zero5 36 S), u.val.cell? ⟨rb, 0, none⟩ = some (.pointer (some ⟨sb, 0, none⟩)) := fun S u => u.cell r0 (World.block_lt_of_cell? X _ r0)
        have hcx : ∀ (S : Option Nat) (u : UndA X.heap.size X zero5 36 S), u.val.cell? ⟨w.heap.size + 1, 3, none⟩ = some (.slice ad la.length cap) := fun S u => u.cell x3 (World.block_lt_of_cell? X _ x3)
        refine wp_region_new zero5 36 7 (by kernel_rfl) (by kernel_rfl) rfl (fun _ => rfl) (fun a w => by simp [go_sem, zero5]) ?_
        simp only [List.take_succ_cons, List.take_zero, List.drop_succ_cons, List.drop_zero]
        repeat (refine wpQuietF_step (fun K hK => ?_); go_simp; first | (refine hK _ ?_; clear hK K) | (apply Exists.intro; refine ⟨fun S u => ?_, hK _ ?_⟩; (go_at_call 130; exact UndA.calls (Nat.le_refl _) u (HA.out _ u.below)); clear hK K))
        refine wpQuietF_nil ?_
        intro b1 w6 hb1 hbel hblk
        obtain ⟨d0, d1, d2, d3, d4⟩ := hblk.zero
        obtain ⟨g0, g1, g2, g3, g4⟩ := hblk.free
        have hltb1 := hblk.lt
        obtain ⟨W2, hW2⟩ : ∃ Z : World, Z = ((((w6.setCell ⟨b1, 0, none⟩ (.int .i64 pa.need)).setCell ⟨b1, 1, none⟩ (.int .i64 pa.net)).setCell ⟨b1, 2, none⟩ (.int .i64 pa.high)).setCell ⟨b1, 3, none⟩ (.int .i64 pa.steps)).setCell ⟨b1, 4, none⟩ (.bool pa.str) := ⟨_, rfl⟩
        have hblk2 : Blk W2 b1 pa.arr 36 := by rw [hW2]; exact blk_set5 hblk _ _ _ _ _
        have hbelN : Below X.heap.size X W2 := by rw [hW2]; exact ((((hbel.setCell hb1 _).setCell hb1 _).setCell hb1 _).setCell hb1 _).setCell hb1 _
        have HKb1 := hidden hblk2; have HNW2 := hidden hbelN
        clear hcr hcx hne hblk hbel hblk2 hbelN r0 r1 r2 r3 r4 r5 x0 x1 x2 x3 x4
        go_simp
        go_upto_region 10 with fail
        rw [← hW2]
        clear hW2 d0 d1 d2 d3 d4 g0 g1 g2 g3 g4
        have hs6 := HNW2.out.size
        obtain ⟨r0, r1, r2, r3, r4, r5⟩ := (show Blk W2 rb (rdr sb tv I2 fin 0 A) 181 from (HNW2.out.block _ KR.out.lt).trans KR.out).rdr
        have hbx6 : Blk W2 (w.heap.size + 1) #[.int .i64 5, .int .i64 0, .string ⟨#[]⟩, .slice ad la.length cap, .slice ad2 lb.length cap2] 249 := (HNW2.out.block _ KX.out.lt).trans KX.out
        have x0 : W2.cell? ⟨w.heap.size + 1, 0, none⟩ = some (.int .i64 5) := hbx6.cell 0 _ rfl
        have x1 : W2.cell? ⟨w.heap.size + 1, 1, none⟩ = some (.int .i64 0) := hbx6.cell 1 _ rfl
        have x2 : W2.cell? ⟨w.heap.size + 1, 2, none⟩ = some (.string ⟨#[]⟩) := hbx6.cell 2 _ rfl
        have x3 : W2.cell? ⟨w.heap.size + 1, 3, none⟩ = some (.slice ad la.length cap) := hbx6.cell 3 _ rfl
        have x4 : W2.cell? ⟨w.heap.size + 1, 4, none⟩ = some (.slice ad2 lb.length cap2) := hbx6.cell 4 _ rfl
        clear hbx6
        have hne := UndA.ne W2.heap.size W2 zero5 36 (Nat.le_refl _)
        have hcr : ∀ (S : Option Nat) (u : UndA W2.heap.size W2 zero5 36 S), u.val.cell? ⟨rb, 0, none⟩ = some (.pointer (some ⟨sb, 0, none⟩)) := fun S u => u.cell r0 (World.block_lt_of_cell? W2 _ r0)
        have hcx : ∀ (S : Option Nat) (u : UndA W2.heap.size W2 zero5 36 S), u.val.cell? ⟨w.heap.size + 1, 4, none⟩ = some (.slice ad2 lb.length cap2) := fun S u => u.cell x4 (World.block_lt_of_cell? W2 _ x4)
        refine wp_region_new zero5 36 7 (by kernel_rfl) (by kernel_rfl) rfl (fun _ => rfl) (fun a w => by simp [go_sem, zero5]) ?_
        simp only [List.take_succ_cons, List.take_zero, List.drop_succ_cons, List.drop_zero]
        repeat (refine wpQuietF_step (fun K hK => ?_); go_simp; first | (refine hK _ ?_; clear hK K) | (apply Exists.intro; refine ⟨fun S u => ?_, hK _ ?_⟩; (go_at_call 130; exact UndA.calls (Nat.le_refl _) u (HBB.out _ (HNW2.out.trans (u.below.mono hs6)))); clear hK K))
        refine wpQuietF_nil ?_
        intro b2 w7 hb2 hbel hblk
        obtain ⟨d0, d1, d2, d3, d4⟩ := hblk.zero
        obtain ⟨g0, g1, g2, g3, g4⟩ := hblk.free
        have hltb2 := hblk.lt
        obtain ⟨W3, hW3⟩ : ∃ Z : World, Z = ((((w7.setCell ⟨b2, 0, none⟩ (.int .i64 pb.need)).setCell ⟨b2, 1, none⟩ (.int .i64 pb.net)).setCell ⟨b2, 2, none⟩ (.int .i64 pb.high)).setCell ⟨b2, 3, none⟩ (.int .i64 pb.steps)).setCell ⟨b2, 4, none⟩ (.bool pb.str) := ⟨_, rfl⟩
        have hblk2 : Blk W3 b2 pb.arr 36 := by rw [hW3]; exact blk_set5 hblk _ _ _ _ _
        have hbelN : Below W2.heap.size W2 W3 := by rw [hW3]; exact ((((hbel.setCell hb2 _).setCell hb2 _).setCell hb2 _).setCell hb2 _).setCell hb2 _
        have HKb2 := hidden hblk2; have HNW3 := hidden hbelN
        clear hcr hcx hne hblk hbel hblk2 hbelN r0 r1 r2 r3 r4 r5 x0 x1 x2 x3 x4
        go_simp
        go_upto_region 11 with fail
        rw [← hW3]
        clear hW3 d0 d1 d2 d3 d4 g0 g1 g2 g3 g4
        have hbelX3 : Below X.heap.size X W3 := HNW2.out.trans (HNW3.out.mono hs6)
        have hs7 := hbelX3.size
        have hK1 : Blk W3 b1 pa.arr 36 := (HNW3.out.block _ HKb1.out.lt).trans HKb1.out
        have hbr3 : Blk W3 rb (rdr sb tv I2 fin 0 A) 181 := (hbelX3.block _ KR.out.lt).trans KR.out
        have hbx3 : Blk W3 (w.heap.size + 1) #[.int .i64 5, .int .i64 0, .string ⟨#[]⟩, .slice ad la.length cap, .slice ad2 lb.length cap2] 249 := (hbelX3.block _ KX.out.lt).trans KX.out
        have hbz3 : Blk W3 w.heap.size item0 249 := (hbelX3.block _ KZ.out.lt).trans KZ.out
        have hC3 : Chg (fun b => b = rb) w W3 := KC.out.trans (Chg.ofBelow hbelX3)
        obtain ⟨m0, m1, m2, m3, m4⟩ := hK1.inf
        obtain ⟨z0, z1, z2, z3, z4⟩ := HKb2.out.inf
        obtain ⟨r0, r1, r2, r3, r4, r5⟩ := hbr3.rdr
        obtain ⟨d0, d1, d2, d3, d4⟩ := hbz3.item0
        obtain ⟨g0, g1, g2, g3, g4⟩ := hbz3.free
        have x0 : W3.cell? ⟨w.heap.size + 1, 0, none⟩ = some (.int .i64 5) := hbx3.cell 0 _ rfl
        have x1 : W3.cell? ⟨w.heap.size + 1, 1, none⟩ = some (.int .i64 0) := hbx3.cell 1 _ rfl
        have x2 : W3.cell? ⟨w.heap.size + 1, 2, none⟩ = some (.string ⟨#[]⟩) := hbx3.cell 2 _ rfl
        have x3 : W3.cell? ⟨w.heap.size + 1, 3, none⟩ = some (.slice ad la.length cap) := hbx3.cell 3 _ rfl
        have x4 : W3.cell? ⟨w.heap.size + 1, 4, none⟩ = some (.slice ad2 lb.length cap2) := hbx3.cell 4 _ rfl
        have LB := hidden hbelX3; have LR := hidden hbr3; have LX := hidden hbx3; have LZ := hidden hbz3; have LC := hidden hC3
        clear hbelX3 hK1 hbr3 hbx3 hbz3 hC3
        by_cases hnet : pa.net = pb.net
        · have hnb : (pa.net == pb.net) = true := by simpa using hnet
          have HNET := hidden hnet
          clear hnet
          go_wp2_with fail
          have hRe : R = .inl (⟨none, (Inf.plain 1 0).then (pa.more.ways pb)⟩, I2) := by
            rw [HRR.out, pBr, ← HP.out]; simp only [hel, if_true]; rw [← HP2.out]; simp only; rw [← HPA.out, ← HPB.out, if_pos HNET.out]
          rw [hRe]
          refine bodyPost_ret (v := .agg #[.int .i64 5, .int .i64 0, .string ⟨#[]⟩, .slice ad la.length cap, .slice ad2 lb.length cap2]) (by simp [results, Tryz.results168, go_sem, d0, d1, d2, d3, d4]) rfl ⟨_, fun b => (F b ∨ (Value.slice ad la.length cap).ownBlock = some b) ∨ (F2 b ∨ (Value.slice ad2 lb.length cap2).ownBlock = some b), rfl, ⟨5, 0, ⟨#[]⟩, ad, la.length, cap, ad2, lb.length, cap2, rfl⟩, ⟨5, rfl, by decide⟩, ?_, ?_, ?_, ?_⟩
          · exact ((((LR.out.setOther (by simp; omega) _).setOther (by simp; omega) _).setOther (by simp; omega) _).setOther (by simp; omega) _).setOther (by simp; omega) _
          · exact LC.out.trans_ge ((((((Chg.refl (fun k => w.heap.size ≤ k) W3).setCell (p := ⟨w.heap.size, 0, none⟩) (by simp) _).setCell (p := ⟨w.heap.size, 1, none⟩) (by simp) _).setCell (p := ⟨w.heap.size, 2, none⟩) (by simp) _).setCell (p := ⟨w.heap.size, 3, none⟩) (by simp) _).setCell (p := ⟨w.heap.size, 4, none⟩) (by simp) _)
          · intro b hb
            have hs : (((((W3.setCell ⟨w.heap.size, 0, none⟩ (.int .i64 5)).setCell ⟨w.heap.size, 1, none⟩ (.int .i64 0)).setCell ⟨w.heap.size, 2, none⟩ (.string ⟨#[]⟩)).setCell ⟨w.heap.size, 3, none⟩ (.slice ad la.length cap)).setCell ⟨w.heap.size, 4, none⟩ (.slice ad2 lb.length cap2)).heap.size = W3.heap.size := by simp [World.setCell]
            rw [hs]
            rcases hb with hb | hb
            · have hq := HLO.out b hb; exact ⟨by omega, by omega⟩
            · have hq := HLO2.out b hb; exact ⟨by omega, by omega⟩
          · intro w' hF hsys
            have hback : ∀ b, w.heap.size + 1 + 1 + 1 ≤ b → b < X.heap.size → ((F b ∨ (Value.slice ad la.length cap).ownBlock = some b) ∨ (F2 b ∨ (Value.slice ad2 lb.length cap2).ownBlock = some b)) → w'.heap[b]? = X.heap[b]? := fun b h1 h2 hb => by
              rw [hF b hb]
              rw [Below.heap_setCell _ _ _ _ (by simp; omega), Below.heap_setCell _ _ _ _ (by simp; omega), Below.heap_setCell _ _ _ _ (by simp; omega), Below.heap_setCell _ _ _ _ (by simp; omega), Below.heap_setCell _ _ _ _ (by simp; omega)]
              exact LB.out.block b h2
            have hA := fun w2 hb => HAT.out.later H1.out.2.2.2 (by omega) (by have := H1.out.2.2.1; omega) w' (fun b hb => by have hq := HLO.out b hb; rw [hback b (by omega) (by omega) (Or.inl hb)]; exact EA.out b hb) (Or.inr trivial) hsys w2 hb
            have hB := fun w2 hb => HAT2.out.later H2.out.2.2.2 (by omega) (by have := H2.out.2.2.1; omega) w' (fun b hb => by have hq := HLO2.out b hb; rw [hback b (by omega) (by omega) (Or.inr hb)]; exact EB.out b hb) (Or.inr trivial) hsys w2 hb
            rw [← HPA.out] at hA
            rw [← HPB.out] at hB
            have hwa : pa.Ok := by rw [HPA.out]; exact (infL_wt H1.out.2.2.2).ok (by omega) (by omega)
            have hwb : pb.Ok := by rw [HPB.out]; exact (infL_wt H2.out.2.2.2).ok (by omega) (by omega)
            exact ref_of_else sb _ _ _ _ rfl rfl rfl rfl pa pb hwa hwb w' hA hB
        · have hnb : (pa.net == pb.net) = false := by simpa using hnet
          have HNET := hidden hnet
          have hq5 : 1 ≤ I2 := by omega
          have hq6 : I2 ≤ 1100000 := by omega
          clear hnet
          go_wp2_with fail
          have hI2e : (I2 : Int) - 1 = ((I2 - 1 : Nat) : Int) := by omega
          rw [hI2e]
          have hRd3 := HR.out.chg LC.out
          refine (ref_fails rb sb tv toks (I2 - 1) I2 fin A 6 W3 (by omega) (by omega) LR.out hRd3.tok hRd3.tr).mono ?_
          rintro e w8 ⟨rfl, hb8, hc8⟩
          have hbx8 : Blk w8 (w.heap.size + 1) #[.int .i64 5, .int .i64 0, .string ⟨#[]⟩, .slice ad la.length cap, .slice ad2 lb.length cap2] 249 := LX.out.chg hc8 (by omega)
          have hbz8 : Blk w8 w.heap.size item0 249 := LZ.out.chg hc8 (by omega)
          have hC8 := LC.out.trans hc8
          have HB8 := hidden hb8; have HC8 := hidden hC8
          clear hI2e hRd3 hb8 hc8 hC8 m0 m1 m2 m3 m4 z0 z1 z2 z3 z4 r0 r1 r2 r3 r4 r5 d0 d1 d2 d3 d4 g0 g1 g2 g3 g4 x0 x1 x2 x3 x4
          obtain ⟨d0, d1, d2, d3, d4⟩ := hbz8.item0
          obtain ⟨g0, g1, g2, g3, g4⟩ := hbz8.free
          have x0 : w8.cell? ⟨w.heap.size + 1, 0, none⟩ = some (.int .i64 5) := hbx8.cell 0 _ rfl
          have x1 : w8.cell? ⟨w.heap.size + 1, 1, none⟩ = some (.int .i64 0) := hbx8.cell 1 _ rfl
          have x2 : w8.cell? ⟨w.heap.size + 1, 2, none⟩ = some (.string ⟨#[]⟩) := hbx8.cell 2 _ rfl
          have x3 : w8.cell? ⟨w.heap.size + 1, 3, none⟩ = some (.slice ad la.length cap) := hbx8.cell 3 _ rfl
          have x4 : w8.cell? ⟨w.heap.size + 1, 4, none⟩ = some (.slice ad2 lb.length cap2) := hbx8.cell 4 _ rfl
          clear hbx8 hbz8
          go_wp2_with fail
          have hRe : R = .inr (6, plc toks fin (I2 - 1)) := by
            rw [HRR.out, pBr, ← HP.out]; simp only [hel, if_true]; rw [← HP2.out]; simp only; rw [← HPA.out, ← HPB.out, if_neg HNET.out]
          rw [hRe]
          refine bodyPost_ret (v := .agg #[.int .i64 5, .int .i64 0, .string ⟨#[]⟩, .slice ad la.length cap, .slice ad2 lb.length cap2]) (by simp [results, Tryz.results168, go_sem, d0, d1, d2, d3, d4]) rfl ⟨_, I2, rfl, ⟨5, 0, ⟨#[]⟩, ad, la.length, cap, ad2, lb.length, cap2, rfl⟩, by decide, ?_, ?_⟩
          · exact ((((HB8.out.setOther (by simp; omega) _).setOther (by simp; omega) _).setOther (by simp; omega) _).setOther (by simp; omega) _).setOther (by simp; omega) _
          · exact HC8.out.trans_ge ((((((Chg.refl (fun k => w.heap.size ≤ k) w8).setCell (p := ⟨w.heap.size, 0, none⟩) (by simp) _).setCell (p := ⟨w.heap.size, 1, none⟩) (by simp) _).setCell (p := ⟨w.heap.size, 2, none⟩) (by simp) _).setCell (p := ⟨w.heap.size, 3, none⟩) (by simp) _).setCell (p := ⟨w.heap.size, 4, none⟩) (by simp) _)
      · obtain ⟨ad2, m2, cap2, I', rfl, hE, hB5, hC5⟩ := hP2
        have hRe : R = .inr (E, P) := by rw [HRR.out, pBr, ← HP.out]; simp only [hel, if_true]; rw [← hp2]
        have hCC := HV.out.trans hC5
        have hz0 : Blk w5 w.heap.size item0 249 := (HBZ.out.alloc _).chg hC5 (by omega)
        have hz1 : Blk w5 (w.heap.size + 1) #[.int .i64 5, .int .i64 0, .string ⟨#[]⟩, .slice ad la.length cap, .slice none 0 0] 249 := (HBX.out.alloc _).chg hC5 (by omega)
        obtain ⟨d0, d1, d2, d3, d4⟩ := hz0.item0
        obtain ⟨g0, g1, g2, g3, g4⟩ := hz0.free
        obtain ⟨f0, f1, f2, f3, f4⟩ := hz1.free
        have x0 : w5.cell? ⟨w.heap.size + 1, 0, none⟩ = some (.int .i64 5) := hz1.cell 0 _ rfl
        have x1 : w5.cell? ⟨w.heap.size + 1, 1, none⟩ = some (.int .i64 0) := hz1.cell 1 _ rfl
        have x2 : w5.cell? ⟨w.heap.size + 1, 2, none⟩ = some (.string ⟨#[]⟩) := hz1.cell 2 _ rfl
        have x3 : w5.cell? ⟨w.heap.size + 1, 3, none⟩ = some (.slice ad la.length cap) := hz1.cell 3 _ rfl
        have x4 : w5.cell? ⟨w.heap.size + 1, 4, none⟩ = some (.slice none 0 0) := hz1.cell 4 _ rfl
        obtain ⟨r0, r1, r2, r3, r4, r5⟩ := hB5.rdr
        have hEb : (E == 0) = false := by simpa using hE
        have HRE := hidden hRe; have HCC := hidden hCC; have HB5 := hidden hB5; have HE := hidden hE
        clear hp2 hRe hCC hz0 hz1 hB5 hC5 hE
        go_wp2_with fail
        rw [HRE.out]
        refine bodyPost_ret (v := .agg #[.int .i64 5, .int .i64 0, .string ⟨#[]⟩, .slice ad la.length cap, .slice ad2 m2 cap2]) (by simp [results, Tryz.results168, go_sem, d0, d1, d2, d3, d4]) rfl ⟨_, I', rfl, ⟨5, 0, ⟨#[]⟩, ad, la.length, cap, ad2, m2, cap2, rfl⟩, HE.out, ?_, ?_⟩
        · exact (((((HB5.out.setOther (by simp; omega) _).setOther (by simp; omega) _).setOther (by simp; omega) _).setOther (by simp; omega) _).setOther (by simp; omega) _).setOther (by simp; omega) _
        · refine HCC.out.trans_ge ?_
          exact (((((((Chg.refl (fun k => w.heap.size ≤ k) w5).setCell (p := ⟨w.heap.size + 1, 4, none⟩) (by simp) _).setCell (p := ⟨w.heap.size, 0, none⟩) (by simp) _).setCell (p := ⟨w.heap.size, 1, none⟩) (by simp) _).setCell (p := ⟨w.heap.size, 2, none⟩) (by simp) _).setCell (p := ⟨w.heap.size, 3, none⟩) (by simp) _).setCell (p := ⟨w.heap.size, 4, none⟩) (by simp) _)
    · have hel' : (ta.toList == [101, 108, 115, 101]) = false := by simpa using hel
      obtain ⟨hp1, hp2, hp3, hp4⟩ := pItems_ok ws toks fin HR.out.wok f [tElse, tThen] loops [] I _ _ _ hp.symm ends1 (WtL.nil 0)
      simp only [List.length_nil] at hp3
      obtain ⟨W, hWd⟩ : ∃ W : World, W = w1.setCell ⟨w.heap.size + 1, 3, none⟩ (.slice ad la.length cap) := ⟨_, rfl⟩
      have hCW : Chg (fun b => b = w.heap.size + 1) w1 W := by rw [hWd]; exact (Chg.refl (fun b => b = w.heap.size + 1) w1).setCell (p := ⟨w.heap.size + 1, 3, none⟩) rfl _
      have hFn : ∀ b, F b → b ≠ w.heap.size + 1 := fun b hb => by have := (hAt.fp b hb).1; simp at this; omega
      have hown : ∀ b, (Value.slice ad la.length cap).ownBlock = some b → b ≠ w.heap.size + 1 := fun b hb => by
        have := own_base hAt.row hb; simp at this; omega
      have hall : ∀ w', Below W.heap.size W w' → Calls Tryz.prog 130 #[.pointer (some ⟨sb, 0, none⟩), .slice ad la.length cap] w' fun e w'' => e = .returned (infL la).val ∧ Below w'.heap.size w' w'' := by
        intro w' hb'
        refine hAt.all hp4 (by omega) (by omega) w' (fun b hb => ?_) (fun b hb => ?_) ?_ ?_
        · rw [hb'.block b (by have := (hAt.fp b hb).2.1; have := hCW.size; omega), hCW.block b (hAt.fp b hb).2.1 (hFn b hb)]
        · have hlt2 : b < w1.heap.size := own_lt hAt.row hb
          rw [hb'.block b (by have := hCW.size; omega), hCW.block b hlt2 (hown b hb)]
        · have := hCW.size; have := hb'.size; omega
        · exact (hRd1.sys.chg hCW (by have := HR.out.sys.blk.lt; omega) (fun b hb => by have := own_lt HR.out.sys.row hb; omega)).chg (Chg.ofBelow (S := fun _ => False) hb') id (fun _ _ => id)
      have hbx : Blk W (w.heap.size + 1) #[.int .i64 4, .int .i64 0, .string ⟨#[]⟩, .slice ad la.length cap, .slice none 0 0] 249 := by
        rw [hWd]; have := hz1.set (o := 3) (.slice ad la.length cap); simpa [item4] using this
      have hbr : Blk W rb (rdr sb tv I1 fin 0 A) 181 := hB1.chg hCW (by omega)
      have hbz : Blk W w.heap.size item0 249 := hz0.chg hCW (by omega)
      have hCWw : Chg (fun b => b = rb) w W := hC.trans_ge (hCW.mono (fun k _ hk => by omega))
      have hsW : w1.heap.size = W.heap.size := by rw [hWd]; simp [World.setCell]
      obtain ⟨pa, hpa⟩ : ∃ p, p = infL la := ⟨_, rfl⟩
      have HPA := hidden hpa
      have hall2 : ∀ w', Below W.heap.size W w' → Calls Tryz.prog 130 #[.pointer (some ⟨sb, 0, none⟩), .slice ad la.length cap] w' fun e w'' => e = .returned (.agg #[.int .i64 pa.need, .int .i64 pa.net, .int .i64 pa.high, .int .i64 pa.steps, .bool pa.str]) ∧ Below w'.heap.size w' w'' := by
        rw [hpa]; exact hall
      have hallB : ∀ V : World, V = (W.alloc (.cells #[.int .i64 0, .int .i64 0, .int .i64 0, .int .i64 0, .bool false] 36 (0, 0))).drew → Calls Tryz.prog 130 #[.pointer (some ⟨sb, 0, none⟩), .slice ad la.length cap] V fun e w'' => e = .returned (.agg #[.int .i64 pa.need, .int .i64 pa.net, .int .i64 pa.high, .int .i64 pa.steps, .bool pa.str]) ∧ Below V.heap.size V w'' ∧
          w''.cell? ⟨W.heap.size, 0, none⟩ = some (.int .i64 0) ∧ w''.cell? ⟨W.heap.size, 1, none⟩ = some (.int .i64 0) ∧ w''.cell? ⟨W.heap.size, 2, none⟩ = some (.int .i64 0) ∧ w''.cell? ⟨W.heap.size, 3, none⟩ = some (.int .i64 0) ∧ w''.cell? ⟨W.heap.size, 4, none⟩ = some (.bool false) ∧
          w''.frozen? ⟨W.heap.size, 0, none⟩ = false ∧ w''.frozen? ⟨W.heap.size, 1, none⟩ = false ∧ w''.frozen? ⟨W.heap.size, 2, none⟩ = false ∧ w''.frozen? ⟨W.heap.size, 3, none⟩ = false ∧ w''.frozen? ⟨W.heap.size, 4, none⟩ = false := by
        intro V hV
        refine (hall2 V (by rw [hV]; exact ((Below.refl _ _).alloc (Nat.le_refl _) _).drew)).mono ?_
        rintro e w'' ⟨he, hbb⟩
        have h0 : Blk V W.heap.size zero5 36 := by rw [hV]; exact (blk_new W zero5 36).drew
        have h : Blk w'' W.heap.size zero5 36 := (hbb.block _ h0.lt).trans h0
        exact ⟨he, hbb, h.zero.1, h.zero.2.1, h.zero.2.2.1, h.zero.2.2.2.1, h.zero.2.2.2.2, h.frozen 0, h.frozen 1, h.frozen 2, h.frozen 3, h.frozen 4⟩
      have HAT_lo : ∀ b, (F b ∨ (Value.slice ad la.length cap).ownBlock = some b) → w.heap.size + 1 + 1 + 1 ≤ b ∧ b < w1.heap.size := by
        rintro b (hb | hb)
        · have := hAt.fp b hb; exact ⟨by have := this.1; simpa using this, this.2.1⟩
        · have := own_base hAt.row hb; exact ⟨by simpa using this, own_lt hAt.row hb⟩
      have HALLB := hidden hallB
      have HALL := hidden hall2; have HAT := hidden hAt; have HP := hidden hp; have HBX := hidden hbx; have HBR := hidden hbr; have HBZ := hidden hbz; have HCW := hidden hCWw; have HCW1 := hidden hCW
      have H1 := hidden (And.intro hp1 (And.intro hp2 (And.intro hp3 hp4)))
      have HFN := hidden hFn; have HOWN := hidden hown; have HRD1 := hidden hRd1
      have HWD := hidden hWd
      clear hall hall2 hallB hpa hAt hp hbx hbr hbz hCWw hCW hp1 hp2 hp3 hp4 hFn hown hRd1 hC hC1 hz0 hz1 hB1 hel
      go_wp2_with fail
      rw [← hWd]
      clear hWd e0 e1 e2 e3 e4 f0 f1 f2 f3 f4 r0 r1 r2 r3 r4 r5
      obtain ⟨r0, r1, r2, r3, r4, r5⟩ := HBR.out.rdr
      have x3 := HBX.out.cell 3 _ rfl; have x4 := HBX.out.cell 4 _ rfl
      simp only [List.getElem_toArray, List.getElem_cons_succ, List.getElem_cons_zero] at x3 x4
      have hne := UndA.ne W.heap.size W zero5 36 (Nat.le_refl _)
      have hcr : ∀ (S : Option Nat) (u : UndA W.heap.size W zero5 36 S), u.val.cell? ⟨rb, 0, none⟩ = some (.pointer (some ⟨sb, 0, none⟩)) := fun S u => u.cell r0 (World.block_lt_of_cell? W _ r0)
      have hcx : ∀ (S : Option Nat) (u : UndA W.heap.size W zero5 36 S), u.val.cell? ⟨w.heap.size + 1, 3, none⟩ = some (.slice ad la.length cap) := fun S u => u.cell x3 (World.block_lt_of_cell? W _ x3)
      refine wp_region_new zero5 36 7 (by kernel_rfl) (by kernel_rfl) rfl (fun _ => rfl) (fun a w => by simp [go_sem, zero5]) ?_
      simp only [List.take_succ_cons, List.take_zero, List.drop_succ_cons, List.drop_zero]
      repeat (refine wpQuietF_step (fun K hK => ?_); go_simp; first | (refine hK _ ?_; clear hK K) | (apply Exists.intro; refine ⟨fun S u => ?_, hK _ ?_⟩; (go_at_call 130; exact UndA.calls (Nat.le_refl _) u (HALL.out _ u.below)); clear hK K))
      refine wpQuietF_nil ?_
      intro b1 w2 hb1 hbel2 hblk
      obtain ⟨d0, d1, d2, d3, d4⟩ := hblk.zero
      obtain ⟨g0, g1, g2, g3, g4⟩ := hblk.free
      have hlt2 := hblk.lt
      obtain ⟨W2, hW2⟩ : ∃ W2 : World, W2 = ((((w2.setCell ⟨b1, 0, none⟩ (.int .i64 pa.need)).setCell ⟨b1, 1, none⟩ (.int .i64 pa.net)).setCell ⟨b1, 2, none⟩ (.int .i64 pa.high)).setCell ⟨b1, 3, none⟩ (.int .i64 pa.steps)).setCell ⟨b1, 4, none⟩ (.bool pa.str) := ⟨_, rfl⟩
      have hblk2 : Blk W2 b1 pa.arr 36 := by rw [hW2]; exact blk_set5 hblk _ _ _ _ _
      have hbelW2 : Below W.heap.size W W2 := by rw [hW2]; exact ((((hbel2.setCell hb1 _).setCell hb1 _).setCell hb1 _).setCell hb1 _).setCell hb1 _
      have HK2 := hidden hblk2; have HW2 := hidden hbelW2
      clear hcr hcx hne hblk hbel2 hblk2 hbelW2 r0 r1 r2 r3 r4 r5 x3 x4
      go_simp
      go_wp2_with fail
      rw [← hW2]
      clear hW2 d0 d1 d2 d3 d4 g0 g1 g2 g3 g4
      have hs2 := HW2.out.size
      have hbr2 : Blk W2 rb (rdr sb tv I1 fin 0 A) 181 := (HW2.out.block _ HBR.out.lt).trans HBR.out
      have hbx2 : Blk W2 (w.heap.size + 1) #[.int .i64 4, .int .i64 0, .string ⟨#[]⟩, .slice ad la.length cap, .slice none 0 0] 249 := (HW2.out.block _ HBX.out.lt).trans HBX.out
      obtain ⟨r0, r1, r2, r3, r4, r5⟩ := hbr2.rdr
      have x4 := hbx2.cell 4 _ rfl
      simp only [List.getElem_toArray, List.getElem_cons_succ, List.getElem_cons_zero] at x4
      have HNIL := hidden (all_nil sb)
      have hne := UndA.ne W2.heap.size W2 zero5 36 (Nat.le_refl _)
      have hcr : ∀ (S : Option Nat) (u : UndA W2.heap.size W2 zero5 36 S), u.val.cell? ⟨rb, 0, none⟩ = some (.pointer (some ⟨sb, 0, none⟩)) := fun S u => u.cell r0 (World.block_lt_of_cell? W2 _ r0)
      have hcx : ∀ (S : Option Nat) (u : UndA W2.heap.size W2 zero5 36 S), u.val.cell? ⟨w.heap.size + 1, 4, none⟩ = some (.slice none 0 0) := fun S u => u.cell x4 (World.block_lt_of_cell? W2 _ x4)
      clear hbr2 hbx2
      refine wp_region_new zero5 36 7 (by kernel_rfl) (by kernel_rfl) rfl (fun _ => rfl) (fun a w => by simp [go_sem, zero5]) ?_
      simp only [List.take_succ_cons, List.take_zero, List.drop_succ_cons, List.drop_zero]
      repeat (refine wpQuietF_step (fun K hK => ?_); go_simp; first | (refine hK _ ?_; clear hK K) | (apply Exists.intro; refine ⟨fun S u => ?_, hK _ ?_⟩; (go_at_call 130; exact UndA.calls (Nat.le_refl _) u (HNIL.out _)); clear hK K))
      refine wpQuietF_nil ?_
      intro b2 w3 hb2 hbel3 hblk
      obtain ⟨d0, d1, d2, d3, d4⟩ := hblk.zero
      obtain ⟨g0, g1, g2, g3, g4⟩ := hblk.free
      have hlt3 := hblk.lt
      obtain ⟨W3, hW3⟩ : ∃ W3 : World, W3 = ((((w3.setCell ⟨b2, 0, none⟩ (.int .i64 0)).setCell ⟨b2, 1, none⟩ (.int .i64 0)).setCell ⟨b2, 2, none⟩ (.int .i64 0)).setCell ⟨b2, 3, none⟩ (.int .i64 0)).setCell ⟨b2, 4, none⟩ (.bool true) := ⟨_, rfl⟩
      have hblk3 : Blk W3 b2 Inf.zero.arr 36 := by rw [hW3]; exact blk_set5 hblk _ _ _ _ _
      have hbelW3 : Below W2.heap.size W2 W3 := by rw [hW3]; exact ((((hbel3.setCell hb2 _).setCell hb2 _).setCell hb2 _).setCell hb2 _).setCell hb2 _
      have hK1 : Blk W3 b1 pa.arr 36 := (hbelW3.block _ HK2.out.lt).trans HK2.out
      have hbelW : Below W.heap.size W W3 := HW2.out.trans (hbelW3.mono hs2)
      have hs3 := hbelW.size
      have hbr3 : Blk W3 rb (rdr sb tv I1 fin 0 A) 181 := (hbelW.block _ HBR.out.lt).trans HBR.out
      have hbx3 : Blk W3 (w.heap.size + 1) #[.int .i64 4, .int .i64 0, .string ⟨#[]⟩, .slice ad la.length cap, .slice none 0 0] 249 := (hbelW.block _ HBX.out.lt).trans HBX.out
      have hbz3 : Blk W3 w.heap.size item0 249 := (hbelW.block _ HBZ.out.lt).trans HBZ.out
      have hC3 : Chg (fun b => b = rb) w W3 := HCW.out.trans (Chg.ofBelow hbelW)
      have HBW3 := hidden hbelW; have HK1 := hidden hK1; have HK3 := hidden hblk3; have HBR3 := hidden hbr3; have HBX3 := hidden hbx3; have HBZ3 := hidden hbz3; have HC3 := hidden hC3
      clear hcr hcx hne hblk hbel3 hblk3 hbelW3 hK1 hbelW hbr3 hbx3 hbz3 hC3 r0 r1 r2 r3 r4 r5 x4
      go_simp
      go_upto_region 11 with fail
      rw [← hW3]
      clear hW3 d0 d1 d2 d3 d4 g0 g1 g2 g3 g4
      obtain ⟨m0, m1, m2, m3, m4⟩ := HK1.out.inf
      obtain ⟨z0, z1, z2, z3, z4⟩ := HK3.out.inf
      obtain ⟨r0, r1, r2, r3, r4, r5⟩ := HBR3.out.rdr
      obtain ⟨d0, d1, d2, d3, d4⟩ := HBZ3.out.item0
      obtain ⟨g0, g1, g2, g3, g4⟩ := HBZ3.out.free
      have x0 : W3.cell? ⟨w.heap.size + 1, 0, none⟩ = some (.int .i64 4) := HBX3.out.cell 0 _ rfl
      have x1 : W3.cell? ⟨w.heap.size + 1, 1, none⟩ = some (.int .i64 0) := HBX3.out.cell 1 _ rfl
      have x2 : W3.cell? ⟨w.heap.size + 1, 2, none⟩ = some (.string ⟨#[]⟩) := HBX3.out.cell 2 _ rfl
      have x3 : W3.cell? ⟨w.heap.size + 1, 3, none⟩ = some (.slice ad la.length cap) := HBX3.out.cell 3 _ rfl
      have x4 : W3.cell? ⟨w.heap.size + 1, 4, none⟩ = some (.slice none 0 0) := HBX3.out.cell 4 _ rfl
      simp only [Inf.zero] at z0 z1 z2 z3 z4
      by_cases hnet : pa.net = 0
      · have hnb : (pa.net == 0) = true := by simpa using hnet
        have HNET := hidden hnet
        clear hnet
        go_wp2_with fail
        have hRe : R = .inl (⟨none, (Inf.plain 1 0).then (pa.ways Inf.zero)⟩, I1) := by
          rw [HRR.out, pBr, ← HP.out]; simp only [hel', Bool.false_eq_true, if_false]; rw [← HPA.out, if_pos HNET.out]
        rw [hRe]
        refine bodyPost_ret (v := .agg #[.int .i64 4, .int .i64 0, .string ⟨#[]⟩, .slice ad la.length cap, .slice none 0 0]) (by simp [results, Tryz.results168, go_sem, d0, d1, d2, d3, d4]) rfl ⟨_, fun b => F b ∨ (Value.slice ad la.length cap).ownBlock = some b, rfl, ⟨4, 0, ⟨#[]⟩, ad, la.length, cap, none, 0, 0, rfl⟩, ⟨4, rfl, by decide⟩, ?_, ?_, ?_, ?_⟩
        · exact ((((HBR3.out.setOther (by simp; omega) _).setOther (by simp; omega) _).setOther (by simp; omega) _).setOther (by simp; omega) _).setOther (by simp; omega) _
        · exact HC3.out.trans_ge ((((((Chg.refl (fun k => w.heap.size ≤ k) W3).setCell (p := ⟨w.heap.size, 0, none⟩) (by simp) _).setCell (p := ⟨w.heap.size, 1, none⟩) (by simp) _).setCell (p := ⟨w.heap.size, 2, none⟩) (by simp) _).setCell (p := ⟨w.heap.size, 3, none⟩) (by simp) _).setCell (p := ⟨w.heap.size, 4, none⟩) (by simp) _)
        · intro b hb
          have hs : (((((W3.setCell ⟨w.heap.size, 0, none⟩ (.int .i64 4)).setCell ⟨w.heap.size, 1, none⟩ (.int .i64 0)).setCell ⟨w.heap.size, 2, none⟩ (.string ⟨#[]⟩)).setCell ⟨w.heap.size, 3, none⟩ (.slice ad la.length cap)).setCell ⟨w.heap.size, 4, none⟩ (.slice none 0 0)).heap.size = W3.heap.size := by simp [World.setCell]
          rw [hs]
          have hq := HAT_lo b hb
          exact ⟨by omega, by omega⟩
        · intro w' hF hsys
          have hq1 := H1.out.2.2.2
          have hfe : ∀ b, (F b ∨ (Value.slice ad la.length cap).ownBlock = some b) → w'.heap[b]? = w1.heap[b]? := fun b hb => by
            rw [hF b hb]
            have hq := HAT_lo b hb
            rw [Below.heap_setCell _ _ _ _ (by simp; omega), Below.heap_setCell _ _ _ _ (by simp; omega), Below.heap_setCell _ _ _ _ (by simp; omega), Below.heap_setCell _ _ _ _ (by simp; omega), Below.heap_setCell _ _ _ _ (by simp; omega)]
            rw [HBW3.out.block b (by omega), HCW1.out.block b (by omega) (by omega)]
          have hA := fun w2 hb => HAT.out.later hq1 (by have := H1.out.2.1; omega) (by have := H1.out.2.2.1; have := H1.out.2.1; omega) w' hfe (Or.inr trivial) hsys w2 hb
          rw [← HPA.out] at hA
          have hwt : pa.Ok := by rw [HPA.out]; exact (infL_wt hq1).ok (by omega) (by have := H1.out.2.1; omega)
          exact ref_of_if sb _ _ _ _ rfl rfl rfl rfl pa Inf.zero hwt (Inf.Wt.zero.ok (by omega) (by omega)) w' hA (fun w2 _ => all_nil sb w2)
      · have hnb : (pa.net == 0) = false := by simpa using hnet
        have HNET := hidden hnet
        have hq0 : 1 ≤ I1 := by have := H1.out.1; omega
        have hq1 : I1 ≤ 1100000 := by have := H1.out.2.1; omega
        clear hnet
        go_wp2_with fail
        have hI1 : (I1 : Int) - 1 = ((I1 - 1 : Nat) : Int) := by have := H1.out.1; omega
        rw [hI1]
        have hRd3 := HR.out.chg HC3.out
        refine (ref_fails rb sb tv toks (I1 - 1) I1 fin A 6 W3 (by have := H1.out.2.1; omega) (by omega) HBR3.out hRd3.tok hRd3.tr).mono ?_
        rintro e w4 ⟨rfl, hb4, hc4⟩
        have hbx4 : Blk w4 (w.heap.size + 1) #[.int .i64 4, .int .i64 0, .string ⟨#[]⟩, .slice ad la.length cap, .slice none 0 0] 249 := HBX3.out.chg hc4 (by omega)
        have hbz4 : Blk w4 w.heap.size item0 249 := HBZ3.out.chg hc4 (by omega)
        have hC4 := HC3.out.trans hc4
        have HB4 := hidden hb4; have HC4 := hidden hC4
        clear hI1 hRd3 hb4 hc4 hC4 m0 m1 m2 m3 m4 z0 z1 z2 z3 z4 r0 r1 r2 r3 r4 r5 d0 d1 d2 d3 d4 g0 g1 g2 g3 g4 x0 x1 x2 x3 x4
        obtain ⟨d0, d1, d2, d3, d4⟩ := hbz4.item0
        obtain ⟨g0, g1, g2, g3, g4⟩ := hbz4.free
        have x0 : w4.cell? ⟨w.heap.size + 1, 0, none⟩ = some (.int .i64 4) := hbx4.cell 0 _ rfl
        have x1 : w4.cell? ⟨w.heap.size + 1, 1, none⟩ = some (.int .i64 0) := hbx4.cell 1 _ rfl
        have x2 : w4.cell? ⟨w.heap.size + 1, 2, none⟩ = some (.string ⟨#[]⟩) := hbx4.cell 2 _ rfl
        have x3 : w4.cell? ⟨w.heap.size + 1, 3, none⟩ = some (.slice ad la.length cap) := hbx4.cell 3 _ rfl
        have x4 : w4.cell? ⟨w.heap.size + 1, 4, none⟩ = some (.slice none 0 0) := hbx4.cell 4 _ rfl
        clear hbx4 hbz4
        go_wp2_with fail
        have hRe : R = .inr (6, plc toks fin (I1 - 1)) := by
          rw [HRR.out, pBr, ← HP.out]; simp only [hel', Bool.false_eq_true, if_false]; rw [← HPA.out, if_neg HNET.out]
        rw [hRe]
        refine bodyPost_ret (v := .agg #[.int .i64 4, .int .i64 0, .string ⟨#[]⟩, .slice ad la.length cap, .slice none 0 0]) (by simp [results, Tryz.results168, go_sem, d0, d1, d2, d3, d4]) rfl ⟨_, I1, rfl, ⟨4, 0, ⟨#[]⟩, ad, la.length, cap, none, 0, 0, rfl⟩, by decide, ?_, ?_⟩
        · exact ((((HB4.out.setOther (by simp; omega) _).setOther (by simp; omega) _).setOther (by simp; omega) _).setOther (by simp; omega) _).setOther (by simp; omega) _
        · exact HC4.out.trans_ge ((((((Chg.refl (fun k => w.heap.size ≤ k) w4).setCell (p := ⟨w.heap.size, 0, none⟩) (by simp) _).setCell (p := ⟨w.heap.size, 1, none⟩) (by simp) _).setCell (p := ⟨w.heap.size, 2, none⟩) (by simp) _).setCell (p := ⟨w.heap.size, 3, none⟩) (by simp) _).setCell (p := ⟨w.heap.size, 4, none⟩) (by simp) _)
  · obtain ⟨ad, m, cap, I', rfl, hE, hB1, hC1⟩ := hP
    have hRe : R = .inr (E, P) := by rw [HRR.out, pBr, ← hp]
    have hC := HW.out.trans hC1
    have hz0 : Blk w1 w.heap.size item0 249 := ((blk_new w item0 249).alloc _ |>.alloc _).chg hC1 (by omega)
    have hz1 : Blk w1 (w.heap.size + 1) item4 249 := (Blk.alloc (by have := blk_new (w.alloc (.cells item0 249 (0, 0))) item4 249; simpa using this) _).chg hC1 (by omega)
    obtain ⟨d0, d1, d2, d3, d4⟩ := hz0.item0
    obtain ⟨g0, g1, g2, g3, g4⟩ := hz0.free
    obtain ⟨e0, e1, e2, e3, e4⟩ := hz1.item4
    obtain ⟨f0, f1, f2, f3, f4⟩ := hz1.free
    obtain ⟨r0, r1, r2, r3, r4, r5⟩ := hB1.rdr
    have hEb : (E == 0) = false := by simpa using hE
    have HRE := hidden hRe; have HC := hidden hC; have HB1 := hidden hB1; have HE := hidden hE
    have hsz := hz1.lt
    clear hp hRe hC hz0 hz1 hB1 hC1 hE
    go_wp2_with fail
    rw [HRE.out]
    refine bodyPost_ret (v := .agg #[.int .i64 4, .int .i64 0, .string ⟨#[]⟩, .slice ad m cap, .slice none 0 0]) (by simp [results, Tryz.results168, go_sem, d0, d1, d2, d3, d4]) rfl ⟨_, I', rfl, ⟨4, 0, ⟨#[]⟩, ad, m, cap, none, 0, 0, rfl⟩, HE.out, ?_, ?_⟩
    · exact (((((HB1.out.setOther (by simp; omega) _).setOther (by simp; omega) _).setOther (by simp; omega) _).setOther (by simp; omega) _).setOther (by simp; omega) _).setOther (by simp; omega) _
    · refine HC.out.trans_ge ?_
      exact ((((((Chg.refl (fun k => w.heap.size ≤ k) w1).setCell (p := ⟨w.heap.size + 1, 3, none⟩) (by simp) _).setCell (p := ⟨w.heap.size, 0, none⟩) (by simp) _).setCell (p := ⟨w.heap.size, 1, none⟩) (by simp) _).setCell (p := ⟨w.heap.size, 2, none⟩) (by simp) _).setCell (p := ⟨w.heap.size, 3, none⟩) (by simp) _).setCell (p := ⟨w.heap.size, 4, none⟩) (by simp) _

end Go.Proofs.YtcphhbofjkenaaaGreatDoor
