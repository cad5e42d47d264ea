/- The law 'Loads', for every script that is not too great. -/
import Derived.Test.YtcphhbofjkenaaaGreatDoorM44

namespace Go.Proofs.YtcphhbofjkenaaaGreatDoor
open Go Go.RowKit
set_option linter.unusedVariables false
set_option linter.unusedSimpArgs false

/-- What is known of the numbers and texts of a step. -/
structure OpD.Ok (o : OpD) : Prop where
  a0 : -9223372036854775808 ≤ o.A
  a1 : o.A ≤ 9223372036854775807
  s : o.S.size ≤ 1100000

theorem firstD_ok (tb ib : Nat) : ∀ o ∈ firstD tb ib, o.Ok := by
  intro o ho
  simp only [firstD, List.mem_cons, List.not_mem_nil, or_false] at ho
  have k0 : (ByteArray.mk #[]).size ≤ 1100000 := by decide
  have k1 : sumT.size ≤ 1100000 := by decide
  have k2 : textT.size ≤ 1100000 := by decide
  rcases ho with rfl | rfl | rfl | rfl | rfl | rfl | rfl <;> constructor <;> first | assumption | (dsimp only; omega)

/-- After so many steps, with so many systems. -/
def StL (B wb : Nat) (w : World) (k m : Nat) : Prop := ∃ lv bk G ds, LawAt B w wb lv bk G ds ∧ ds.length = m ∧ m ≤ k ∧ ∀ j, j < 4 → (G.get j).length ≤ 12 * k

theorem BookA.init (B : Nat) (w : World) : BookA B w ⟨nilV, nilV, nilV, nilV⟩ G4.none :=
  ⟨four_cases ⟨rfl, Or.inl ⟨rfl, rfl⟩⟩ ⟨rfl, Or.inl ⟨rfl, rfl⟩⟩ ⟨rfl, Or.inl ⟨rfl, rfl⟩⟩ ⟨rfl, Or.inl ⟨rfl, rfl⟩⟩, four_cases (fun i u hu => by simp [G4.get, G4.none] at hu) (fun i u hu => by simp [G4.get, G4.none] at hu) (fun i u hu => by simp [G4.get, G4.none] at hu) (fun i u hu => by simp [G4.get, G4.none] at hu), four_cases rfl rfl rfl rfl⟩
theorem LawAt.init (W : World) (ht : Tab W) : LawAt W.heap.size (W.alloc (.cells (lwC nilV nilV nilV nilV nilV) 84 (0, 0))) W.heap.size nilV ⟨nilV, nilV, nilV, nilV⟩ G4.none [] :=
  ⟨blk_new W _ _, ⟨rfl, Or.inl ⟨rfl, rfl⟩⟩, fun i d hd => by simp at hd, fun i j d d' hd => by simp at hd, fun i d hd => by simp at hd, BookA.init _ _, ht.below ((Below.refl _ _).alloc (Nat.le_refl _) _), ht.lt, Nat.le_refl _⟩

/-- What stands behind a step that goes well. -/
theorem StL.next {B wb : Nat} {w w' : World} {k m n : Nat} {ds : List PD} {G : G4} {e : Ending} {o : OpD} (hm : ds.length = m) (hmk : m ≤ k) (hg : ∀ j, j < 4 → (G.get j).length ≤ 12 * k) (hn1 : o.k = 1 → n = 1) (h : LStep B w wb ds G n e w') :
    e = .returned (.bool true) ∧ Below B w w' ∧ ∃ m', StL B wb w' (k + 1) m' ∧ m ≤ m' ∧ (o.k = 1 → 0 < m') := by
  obtain ⟨he, lv', bk', G', ds', hL', g1, g2, g3, g4⟩ := h
  exact ⟨he, g4, ds'.length, ⟨lv', bk', G', ds', hL', rfl, by omega, fun j hj => by have := g3 j hj; have := hg j hj; omega⟩, by omega, fun h => by have := hn1 h; omega⟩
theorem StL.looks {B wb : Nat} {w : World} {k m : Nat} (h : StL B wb w k m) (hk : k ≤ 2000001) : Calls Tryz.prog 36 #[.pointer (some ⟨wb, 1, none⟩)] w fun e w' => e = .returned (.bool true) ∧ Below w.heap.size w w' := by
  obtain ⟨lv, bk, G, ds, hL, hm, hmk, hg⟩ := h
  exact law_looks B w wb lv bk G hL.blk hL.bok (fun j hj => by have := hg j hj; omega)
theorem StL.below {B wb : Nat} {w w' : World} {k m : Nat} (h : StL B wb w k m) (hb : Below w.heap.size w w') : StL B wb w' k m := by
  obtain ⟨lv, bk, G, ds, hL, r⟩ := h
  exact ⟨lv, bk, G, ds, hL.below hb, r⟩
theorem StL.init (W : World) (ht : Tab W) : StL W.heap.size W.heap.size (W.alloc (.cells (lwC nilV nilV nilV nilV nilV) 84 (0, 0))) 0 0 :=
  ⟨_, _, _, _, LawAt.init W ht, rfl, Nat.le_refl _, four_cases (by decide) (by decide) (by decide) (by decide)⟩
theorem StL.size {B wb : Nat} {w : World} {k m : Nat} (h : StL B wb w k m) : B ≤ wb ∧ wb < w.heap.size := by
  obtain ⟨lv, bk, G, ds, hL, r⟩ := h
  exact ⟨hL.bas.2, hL.blk.lt⟩

theorem loads_plays (all : List OpD) (hok : ∀ o ∈ all, o.Ok) : Plays [1, 2, 3, 4] all StL := by
  refine ⟨?_, fun B wb w k m h hk => h.looks hk, fun B wb w w' k m h hb => h.below hb, StL.init, fun B wb w k m h => h.size, rfl⟩
  rintro B wb o ho hin w k m ⟨lv, bk, G, ds, hL, hm, hmk, hg⟩ _ hpos hk
  obtain ⟨h1, h2, h3⟩ := hok o ho
  have hg0 : G.n.length ≤ 12 * k := hg 0 (by omega)
  have hk4 : o.k = 1 ∨ o.k = 2 ∨ o.k = 3 ∨ o.k = 4 := by
    simp only [List.any_cons, List.any_nil, Bool.or_false, Bool.or_eq_true, beq_iff_eq] at hin
    omega
  rcases hk4 with e | e | e | e
  · have := law_step_new hL (by omega) o.A o.C o.S o.a1 o.a2 o.a3 o.n1 o.c1 o.n2 o.c2 o.n3 o.c3
    rw [e]
    refine this.mono (fun e' w' h => ?_)
    have := StL.next (o := o) hm hmk hg (fun _ => rfl) h
    rw [e] at this; exact this
  · have := law_step_load hL (by have := hpos (by omega); omega) (by omega) o.A o.C o.S o.a1 o.a2 o.a3 o.n1 o.c1 o.n2 o.c2 o.n3 o.c3 h1 h2 h3
    rw [e]
    refine this.mono (fun e' w' h => ?_)
    have := StL.next (o := o) hm hmk hg (fun h => absurd h (by omega)) h
    rw [e] at this; exact this
  · have := law_step_words hL (by have := hpos (by omega); omega) (by omega) (by omega) o.A o.C o.S o.a1 o.a2 o.a3 o.n1 o.c1 o.n2 o.c2 o.n3 o.c3 h1 h2 h3
    rw [e]
    refine this.mono (fun e' w' h => ?_)
    have := StL.next (o := o) hm hmk hg (fun h => absurd h (by omega)) h
    rw [e] at this; exact this
  · have := law_step_find hL (by have := hpos (by omega); omega) (by omega) o.A o.C o.S o.a1 o.a2 o.a3 o.n1 o.c1 o.n2 o.c2 o.n3 o.c3 h1 h2 h3
    rw [e]
    refine this.mono (fun e' w' h => ?_)
    have := StL.next (o := o) hm hmk hg (fun h => absurd h (by omega)) h
    rw [e] at this; exact this

theorem play4 (w : World) (t : TypeId) : ∀ j (h : j < [1, 2, 3, 4].length), (w.alloc (.cells #[.int .i64 1, .int .i64 2, .int .i64 3, .int .i64 4] t)).cell? ⟨w.heap.size, j, none⟩ = some (.int .i64 ([1, 2, 3, 4] : List Int)[j]) := by
  intro j h
  have h4 : j < 4 := h
  match j, h4 with
  | 0, _ => simp
  | 1, _ => simp
  | 2, _ => simp
  | 3, _ => simp

set_option maxRecDepth 100000 in
set_option maxHeartbeats 4000000 in
theorem law_loads (w : World) (sv : Value) (ops : List OpD) (hs : ScriptAt w sv ops) (hat : ∀ o ∈ ops, o.At w.heap.size w) (hn : ops.length ≤ 1100000) (ht : Tab w) (hok : ∀ o ∈ ops, o.Ok) :
    Calls Tryz.prog 3 #[sv] w fun e w' => e = .returned (.bool true) ∧ Below w.heap.size w w' := by
  obtain ⟨sa, sn, sc, hsv⟩ : ∃ a n c, sv = .slice a n c := by
    rcases hs with ⟨e, _⟩ | ⟨a, c, e, _⟩
    · exact ⟨_, _, _, e⟩
    · exact ⟨_, _, _, e⟩
  subst hsv
  have hb0 : Below w.heap.size w (w.alloc (.cells #[.int .i64 1, .int .i64 2, .int .i64 3, .int .i64 4] 3 (0, 0))) := (Below.refl _ _).alloc (Nat.le_refl _) _
  have hs0 : ScriptAt (w.alloc (.cells #[.int .i64 1, .int .i64 2, .int .i64 3, .int .i64 4] 3 (0, 0))) (.slice sa sn sc) ops := by
    rcases hs with h | ⟨a, c, e, h⟩
    · exact Or.inl h
    · refine Or.inr ⟨a, c, e, fun j u hu => ?_⟩
      have h1 := h j u hu
      rw [hb0.cell (World.block_lt_of_cell? w _ h1)]; exact h1
  have hat0 : ∀ o ∈ ops, o.At (w.alloc (.cells #[.int .i64 1, .int .i64 2, .int .i64 3, .int .i64 4] 3 (0, 0))).heap.size (w.alloc (.cells #[.int .i64 1, .int .i64 2, .int .i64 3, .int .i64 4] 3 (0, 0))) := fun o ho => ((hat o ho).below hb0).mono hb0.size
  have HP := hidden (law_plays (pl := [1, 2, 3, 4]) (ops := ops) (St := StL) (w.alloc (.cells #[.int .i64 1, .int .i64 2, .int .i64 3, .int .i64 4] 3 (0, 0))) (.slice sa sn sc) w.heap.size 4 (fun tb ib => loads_plays _ (fun o ho => (List.mem_append.1 ho).elim (firstD_ok tb ib o) (hok o))) hs0 hat0 hn (ht.below hb0) (by decide) (by decide) (by simp) (play4 w 3))
  have HB := hidden hb0
  clear hs hn ht hok hs0 hb0 hat hat0
  go_enter Tryz.func3, Tryz.ntmps3
  go_wp2_with fail
  refine HP.out.mono ?_
  rintro e w1 ⟨rfl, hb1⟩
  have H1 := hidden hb1
  clear HP hb1
  go_wp2_with fail
  go_ret
  exact ⟨rfl, HB.out.trans (H1.out.mono (by simp))⟩

end Go.Proofs.YtcphhbofjkenaaaGreatDoor
