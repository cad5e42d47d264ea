/- The program: what is known of a word is small as its steps are; what a definition that is taken leaves. -/
import Derived.Deep.OwnRows
import Derived.Test.YtcphhbofjkenaaaGreatDoorM26
import Derived.Test.YtcphhbofjkenaaaGreatDoorM33

namespace Go.Proofs.YtcphhbofjkenaaaGreatDoor
open Go Go.RowKit
set_option linter.unusedVariables false
set_option linter.unusedSimpArgs false

/-- By its steps, unless those are too many. -/
structure Inf.Sm (i : Inf) : Prop where
  s0 : 0 ≤ i.steps
  s1 : i.steps ≤ 1000000001
  h0 : 0 ≤ i.high
  big : 1000000000 < i.steps ∨ (-4 * i.steps ≤ i.need ∧ i.need ≤ 4 * i.steps ∧ -4 * i.steps ≤ i.net ∧ i.net ≤ 4 * i.steps ∧ i.high ≤ 4 * i.steps)

theorem Inf.Sm.wt {i : Inf} (h : i.Sm) (hs : i.steps ≤ 1000000000) : i.Wt 1 := by
  obtain ⟨a, b, c, d⟩ := h
  constructor <;> omega
theorem Inf.Sm.zero : Inf.zero.Sm := by constructor <;> simp [Inf.zero]
theorem Inf.Sm.then {a b : Inf} (ha : a.Sm) (hb : b.Sm) : (a.then b).Sm := by
  obtain ⟨a1, a2, a3, a4⟩ := ha
  obtain ⟨b1, b2, b3, b4⟩ := hb
  constructor <;> simp only [Inf.then] <;> omega
theorem Inf.Sm.orP {a b : Inf} (ha : a.Sm) (hb : b.Sm) : (a.orP b).Sm := by
  obtain ⟨a1, a2, a3, a4⟩ := ha
  obtain ⟨b1, b2, b3, b4⟩ := hb
  constructor <;> simp only [Inf.orP] <;> omega
theorem Inf.Sm.timesP {a : Inf} {n : Int} (ha : a.Sm) (h0 : 0 ≤ n) : (a.timesP n).Sm := by
  obtain ⟨a1, a2, a3, a4⟩ := ha
  unfold Inf.timesP
  split
  · constructor <;> simp
  · rename_i hn
    have hp : a.steps * 1 ≤ a.steps * n := Int.mul_le_mul_of_nonneg_left (by omega) a1
    constructor <;> simp only <;> omega
theorem opInf_sm (k : Nat) (h : k < 35) : (opInf k).Sm := by
  obtain ⟨a, b, c, d⟩ := opTab_bd k h
  constructor <;> simp only [opInf] <;> omega
theorem PE.use_sm {x : PE} (h : x.inf.Sm) : x.use.Sm := by
  unfold PE.use
  split
  · exact opInf_sm 28 (by omega)
  · exact (opInf_sm 33 (by omega)).then h

structure PB.Sm (b : PB) : Prop where
  d : b.does.Sm
  o : b.other.Sm
  t : 0 ≤ b.times

theorem PB.Sm.add {b : PB} {i : Inf} (h : b.Sm) (hi : i.Sm) : (b.add i).Sm := ⟨h.d.then hi, h.o, h.t⟩
theorem PB.Sm.z (b : PB) (hd : b.does = Inf.zero) (ho : b.other.Sm) (ht : 0 ≤ b.times) : b.Sm := ⟨by rw [hd]; exact Inf.Sm.zero, ho, ht⟩

/-- A step that goes well. -/
theorem step_sm (es : List PE) (hes : ∀ x ∈ es, x.inf.Sm) (nt tk : Int) (dc : List Int) (st : List PB) (kn : Inf) (s : ByteArray) (hst : ∀ b ∈ st, b.Sm)
    (R : SR) (hR : stepP es nt tk dc st kn s = R) (h0 : R.1 = 0) : (∀ b ∈ R.2.2.1, b.Sm) ∧ (R.2.2.1 = [] → R.2.2.2.Wt 1 ∧ R.2.2.2.Sm ∧ nt + tk ≤ 400) ∧ R.2.1.length ≤ dc.length + 2 := by
  cases st with
  | nil =>
    subst hR
    exact absurd h0 (by simp [stepP])
  | cons b r =>
    have hb := hst b (List.mem_cons_self ..)
    have hr : ∀ c ∈ r, c.Sm := fun c hc => hst c (List.mem_cons_of_mem _ hc)
    have two : ∀ {x y : PB} {l : List PB}, x.Sm → y.Sm → (∀ c ∈ l, c.Sm) → ∀ c ∈ x :: y :: l, c.Sm := fun hx hy hl c hc => by
      rcases List.mem_cons.1 hc with rfl | hc
      · exact hx
      · rcases List.mem_cons.1 hc with rfl | hc
        · exact hy
        · exact hl c hc
    have one : ∀ {x : PB} {l : List PB}, x.Sm → (∀ c ∈ l, c.Sm) → ∀ c ∈ x :: l, c.Sm := fun hx hl c hc => by
      rcases List.mem_cons.1 hc with rfl | hc
      · exact hx
      · exact hl c hc
    unfold stepP at hR
    simp only at hR
    have bad : ∀ (E : Int), E ≠ 0 → R = (E, dc, b :: r, kn) → False := fun E hE e => hE (by rw [e] at h0; exact h0)
    by_cases g0 : (s.toList == []) = true
    · rw [if_pos g0] at hR; exact (bad 5 (by decide) hR.symm).elim
    rw [if_neg g0] at hR
    by_cases g1 : (s.toList == [58]) = true
    · rw [if_pos g1] at hR; exact (bad 5 (by decide) hR.symm).elim
    rw [if_neg g1] at hR
    by_cases g2 : (s.toList == [118, 97, 114, 105, 97, 98, 108, 101]) = true
    · rw [if_pos g2] at hR; exact (bad 5 (by decide) hR.symm).elim
    rw [if_neg g2] at hR
    by_cases g3 : (s.toList == [59]) = true
    · rw [if_pos g3] at hR
      by_cases ho : b.opener = 34
      · rw [if_pos ho] at hR
        subst hR
        have hs := hb.d.then (opInf_sm 34 (by omega))
        simp only [endErr] at h0
        by_cases q1 : 1000000000 < (b.does.then (opInf 34)).steps
        · rw [if_pos q1] at h0; exact absurd h0 (by decide)
        rw [if_neg q1] at h0
        by_cases q2 : 400 < nt + tk
        · rw [if_pos q2] at h0; exact absurd h0 (by decide)
        exact ⟨fun c hc => (List.not_mem_nil hc).elim, fun _ => ⟨hs.wt (by omega), hs, by omega⟩, by simp⟩
      · rw [if_neg ho] at hR; exact (bad 5 (by decide) hR.symm).elim
    rw [if_neg g3] at hR
    by_cases g4 : (s.toList == [105, 102]) = true
    · rw [if_pos g4] at hR
      subst hR
      exact ⟨two (PB.Sm.z _ rfl Inf.Sm.zero (Int.le_refl _)) (hb.add (opInf_sm 29 (by omega))) hr, fun e => absurd e (List.cons_ne_nil _ _), by simp⟩
    rw [if_neg g4] at hR
    by_cases g5 : (s.toList == [101, 108, 115, 101]) = true
    · rw [if_pos g5] at hR
      by_cases ho : b.opener = 29
      · rw [if_pos ho] at hR
        cases r with
        | nil => exact (bad 5 (by decide) hR.symm).elim
        | cons c r' =>
          simp only at hR
          subst hR
          exact ⟨two (PB.Sm.z _ rfl (hb.d.then (opInf_sm 30 (by omega))) (Int.le_refl _)) (hr c (List.mem_cons_self ..)) (fun x hx => hr x (List.mem_cons_of_mem _ hx)), fun e => absurd e (List.cons_ne_nil _ _), by simp⟩
      · rw [if_neg ho] at hR; exact (bad 5 (by decide) hR.symm).elim
    rw [if_neg g5] at hR
    by_cases g6 : (s.toList == [116, 104, 101, 110]) = true
    · rw [if_pos g6] at hR
      by_cases ho : b.opener = 29 ∨ b.opener = 30
      · rw [if_pos ho] at hR
        by_cases hn : b.does.net = b.other.net
        · rw [if_pos hn] at hR
          cases r with
          | nil => exact (bad 5 (by decide) hR.symm).elim
          | cons c r' =>
            simp only at hR
            subst hR
            exact ⟨one ((hr c (List.mem_cons_self ..)).add (hb.d.orP hb.o)) (fun x hx => hr x (List.mem_cons_of_mem _ hx)), fun e => absurd e (List.cons_ne_nil _ _), by simp⟩
        · rw [if_neg hn] at hR; exact (bad 6 (by decide) hR.symm).elim
      · rw [if_neg ho] at hR; exact (bad 5 (by decide) hR.symm).elim
    rw [if_neg g6] at hR
    by_cases g7 : (s.toList == [100, 111]) = true
    · rw [if_pos g7] at hR
      by_cases q1 : b.numbers < 2
      · rw [if_pos q1] at hR; exact (bad 5 (by decide) hR.symm).elim
      rw [if_neg q1] at hR
      by_cases q2 : 1000 < max 0 (b.a0 - b.a1)
      · rw [if_pos q2] at hR; exact (bad 7 (by decide) hR.symm).elim
      rw [if_neg q2] at hR
      subst hR
      exact ⟨two (PB.Sm.z _ rfl Inf.Sm.zero (Int.le_max_left _ _)) (hb.add (opInf_sm 31 (by omega))) hr, fun e => absurd e (List.cons_ne_nil _ _), by simp⟩
    rw [if_neg g7] at hR
    by_cases g8 : (s.toList == [108, 111, 111, 112]) = true
    · rw [if_pos g8] at hR
      by_cases ho : b.opener = 31
      · rw [if_pos ho] at hR
        by_cases hn : b.does.net = 0
        · rw [if_pos hn] at hR
          cases r with
          | nil => exact (bad 5 (by decide) hR.symm).elim
          | cons c r' =>
            simp only at hR
            subst hR
            exact ⟨one ((hr c (List.mem_cons_self ..)).add ((hb.d.then (opInf_sm 32 (by omega))).timesP hb.t)) (fun x hx => hr x (List.mem_cons_of_mem _ hx)), fun e => absurd e (List.cons_ne_nil _ _), by simp⟩
        · rw [if_neg hn] at hR; exact (bad 6 (by decide) hR.symm).elim
      · rw [if_neg ho] at hR; exact (bad 5 (by decide) hR.symm).elim
    rw [if_neg g8] at hR
    by_cases g9 : (numP s).2 = true
    · rw [if_pos g9] at hR
      subst hR
      have hx := hb.add (opInf_sm 28 (by omega))
      exact ⟨one ⟨hx.d, hx.o, hx.t⟩ hr, fun e => absurd e (List.cons_ne_nil _ _), by simp⟩
    rw [if_neg g9] at hR
    unfold stepW at hR
    cases hlp : lastP es s es.length with
    | some x =>
      rw [hlp] at hR
      simp only at hR
      subst hR
      exact ⟨one (hb.add (PE.use_sm (hes x (lastP_mem es s _ x (Nat.le_refl _) hlp)))) hr, fun e => absurd e (List.cons_ne_nil _ _), by simp⟩
    | none =>
      rw [hlp] at hR
      simp only at hR
      cases hop : opFind s with
      | none =>
        rw [hop] at hR
        exact (bad 3 (by decide) hR.symm).elim
      | some k =>
        rw [hop] at hR
        simp only at hR
        by_cases q : k = 27 ∧ b.inDo = false
        · rw [if_pos q] at hR; exact (bad 5 (by decide) hR.symm).elim
        · rw [if_neg q] at hR
          subst hR
          exact ⟨one (hb.add (opInf_sm k (opFind_lt hop))) hr, fun e => absurd e (List.cons_ne_nil _ _), by simp⟩

/-- A definition that is taken. -/
theorem defP_sm (es : List PE) (hes : ∀ x ∈ es, x.inf.Sm) (nt : Int) (s : ByteArray) : ∀ (f : Nat) (tk : Int) (dc : List Int) (st : List PB) (kn : Inf) (a : Nat), (∀ b ∈ st, b.Sm) → (st = [] → kn.Wt 1 ∧ kn.Sm ∧ nt + tk ≤ 400) → a ≤ s.size →
    ∀ dc' kn' tk' a', defP es nt s f tk dc st kn a = .inl (dc', kn', tk', a') → kn'.Wt 1 ∧ kn'.Sm ∧ nt + tk' ≤ 400 ∧ tk ≤ tk' ∧ (dc'.length : Int) ≤ dc.length + 2 * (tk' - tk) ∧ a ≤ a' ∧ a' ≤ s.size
  | 0, tk, dc, st, kn, a, h1, h2, h3, dc', kn', tk', a', h => by rw [defP] at h; cases h
  | f + 1, tk, dc, [], kn, a, h1, h2, h3, dc', kn', tk', a', h => by
    rw [defP] at h
    cases h
    obtain ⟨i1, i2, i3⟩ := h2 rfl
    exact ⟨i1, i2, i3, Int.le_refl _, by omega, Nat.le_refl _, h3⟩
  | f + 1, tk, dc, b :: r, kn, a, h1, h2, h3, dc', kn', tk', a', h => by
    rw [defP] at h
    obtain ⟨m1, m2, m3, m4⟩ := nextF_le s (s.size - a) a h3
    obtain ⟨T, hT⟩ : ∃ T, T = stepP es nt (tk + 1) dc (b :: r) kn (nx s a).1 := ⟨_, rfl⟩
    rw [← hT] at h
    by_cases h0 : T.1 = 0
    · rw [if_pos h0] at h
      obtain ⟨k1, k2, k3⟩ := step_sm es hes nt (tk + 1) dc (b :: r) kn (nx s a).1 h1 T hT.symm h0
      obtain ⟨j1, j2, j3, j4, j5, j6, j7⟩ := defP_sm es hes nt s f (tk + 1) T.2.1 T.2.2.1 T.2.2.2 (nx s a).2.2 k1 k2 m3 dc' kn' tk' a' h
      exact ⟨j1, j2, j3, by omega, by omega, by unfold nx at j6; omega, j7⟩
    · rw [if_neg h0] at h
      cases h

end Go.Proofs.YtcphhbofjkenaaaGreatDoor

/- The program: Load. -/
namespace Go.Proofs.YtcphhbofjkenaaaGreatDoor
open Go Go.RowKit
set_option linter.unusedVariables false
set_option linter.unusedSimpArgs false

theorem rd_new (s : ByteArray) (w : World) :
    Calls Tryz.prog 77 #[.string s] w fun e w' => e = .returned (.pointer (some ⟨w.heap.size, 0, none⟩)) ∧ Blk w' w.heap.size (rdC s 0) 199 ∧ Below w.heap.size w w' := by
  go_enter Tryz.func77, Tryz.ntmps77
  go_wp2_with fail
  exact bodyPost_ret (v := .pointer (some ⟨w.heap.size, 0, none⟩)) (by simp [results, Tryz.results77, go_sem]) rfl ⟨rfl, blk_new w _ _, (Below.refl _ _).alloc (Nat.le_refl _) _⟩

theorem defP_err (es : List PE) (nt : Int) (s : ByteArray) : ∀ (f : Nat) (tk : Int) (dc : List Int) (st : List PB) (kn : Inf) (a : Nat) (E : Int × Int), defP es nt s f tk dc st kn a = .inr E → E.1 ≠ 0
  | 0, tk, dc, st, kn, a, E, h => by rw [defP] at h; cases h; decide
  | f + 1, tk, dc, [], kn, a, E, h => by rw [defP] at h; cases h
  | f + 1, tk, dc, b :: r, kn, a, E, h => by
    rw [defP] at h
    obtain ⟨T, hT⟩ : ∃ T, T = stepP es nt (tk + 1) dc (b :: r) kn (nx s a).1 := ⟨_, rfl⟩
    rw [← hT] at h
    by_cases h0 : T.1 = 0
    · rw [if_pos h0] at h; exact defP_err es nt s f _ _ _ _ _ E h
    · rw [if_neg h0] at h; cases h; exact h0

/-- What a book's tables keep to. -/
structure LInv (es : List PE) (nv nt : Int) (code : List Int) : Prop where
  l : es.length ≤ 40
  w : ∀ x ∈ es, x.inf.Wt 1
  s : ∀ x ∈ es, x.inf.Sm
  v0 : 0 ≤ nv
  v1 : nv ≤ 16
  t0 : 0 ≤ nt
  t1 : nt ≤ 400
  c : (code.length : Int) ≤ 2 * nt

theorem LInv.var {es : List PE} {nv nt : Int} {code : List Int} {s : ByteArray} {a : Nat} (h : LInv es nv nt code) : LInv (varP es nv s a).2.1 (varP es nv s a).2.2 nt code := by
  unfold varP
  split
  · rename_i hf
    split
    · exact h
    · rename_i hv
      have hl : es.length ≠ 40 := by
        intro e
        unfold refP at hf
        split at hf
        · exact absurd hf (by decide)
        · exact absurd hf (by decide)
      have key : ∀ (P : Inf → Prop), P Inf.zero → (∀ x ∈ es, P x.inf) → ∀ x ∈ es ++ [⟨(nx s a).1, true, nv, Inf.zero⟩], P x.inf := fun P p0 p1 x hx => by
        rcases List.mem_append.1 hx with hx | hx
        · exact p1 x hx
        · rw [List.mem_singleton.1 hx]; exact p0
      exact ⟨by have := h.l; simp; omega, key (fun i => i.Wt 1) (Inf.Sm.zero.wt (by decide)) h.w, key (fun i => i.Sm) Inf.Sm.zero h.s, by have := h.v0; simp only; omega, by have := h.v1; simp only; omega, h.t0, h.t1, h.c⟩
  · exact h

theorem LInv.word {es : List PE} {nv nt : Int} {code : List Int} {s : ByteArray} {a : Nat} (ha : a ≤ s.size) (h : LInv es nv nt code) : LInv (wordP es nt code s a).2.1 nv (wordP es nt code s a).2.2.1 (wordP es nt code s a).2.2.2.1 ∧ ((wordP es nt code s a).1.1 = 0 → a ≤ (wordP es nt code s a).2.2.2.2) := by
  obtain ⟨m1, m2, m3, m4⟩ := nextF_le s (s.size - a) a ha
  unfold wordP
  split
  · rename_i hf
    have hl : es.length ≠ 40 := by
      intro e
      unfold refP at hf
      split at hf
      · exact absurd hf (by decide)
      · exact absurd hf (by decide)
    cases hd : defP es nt s (s.size + 2) 2 code [PB.first] Inf.zero (nx s a).2.2 with
    | inr E => exact ⟨h, fun e => absurd e (defP_err es nt s _ _ _ _ _ _ E hd)⟩
    | inl D =>
      obtain ⟨dc, kn, tk, a'⟩ := D
      simp only
      obtain ⟨k1, k2, k3, k4, k5, k6, k7⟩ := defP_sm es h.s nt s _ 2 code [PB.first] Inf.zero (nx s a).2.2 (fun b hb => by rw [List.mem_singleton.1 hb]; exact PB.Sm.z _ rfl Inf.Sm.zero (Int.le_refl _)) (fun e => absurd e (List.cons_ne_nil _ _)) m3 dc kn tk a' hd
      have key : ∀ (P : Inf → Prop), P kn → (∀ x ∈ es, P x.inf) → ∀ x ∈ es ++ [⟨(nx s a).1, false, code.length, kn⟩], P x.inf := fun P p0 p1 x hx => by
        rcases List.mem_append.1 hx with hx | hx
        · exact p1 x hx
        · rw [List.mem_singleton.1 hx]; exact p0
      have := h.t0
      have := h.c
      exact ⟨⟨by have := h.l; simp; omega, key (fun i => i.Wt 1) k1 h.w, key (fun i => i.Sm) k2 h.s, h.v0, h.v1, by omega, by omega, by omega⟩, fun _ => Nat.le_trans m2 k6⟩
  · rename_i hf
    exact ⟨h, fun e => absurd e hf⟩

/-- Load behind the first look at the text. -/
def loadP (s : ByteArray) : Nat → Nat → List PE → Int → Int → List Int → (Int × Int) × List PE × Int × Int × List Int
  | 0, _, es, nv, nt, code => ((99, 0), es, nv, nt, code)
  | f + 1, a, es, nv, nt, code =>
    if ((nx s a).1.toList == []) = true then ((0, 0), es, nv, nt, code)
    else if ((nx s a).1.toList == [118, 97, 114, 105, 97, 98, 108, 101]) = true then
      if (varP es nv s (nx s a).2.2).1.1 = 0 then loadP s f (nx s (nx s a).2.2).2.2 (varP es nv s (nx s a).2.2).2.1 (varP es nv s (nx s a).2.2).2.2 nt code
      else ((varP es nv s (nx s a).2.2).1, (varP es nv s (nx s a).2.2).2.1, (varP es nv s (nx s a).2.2).2.2, nt, code)
    else if ((nx s a).1.toList == [58]) = true then
      if (wordP es nt code s (nx s a).2.2).1.1 = 0 then loadP s f (wordP es nt code s (nx s a).2.2).2.2.2.2 (wordP es nt code s (nx s a).2.2).2.1 nv (wordP es nt code s (nx s a).2.2).2.2.1 (wordP es nt code s (nx s a).2.2).2.2.2.1
      else ((wordP es nt code s (nx s a).2.2).1, (wordP es nt code s (nx s a).2.2).2.1, nv, (wordP es nt code s (nx s a).2.2).2.2.1, (wordP es nt code s (nx s a).2.2).2.2.2.1)
    else ((3, ((nx s a).2.1 : Int)), es, nv, nt, code)

def loadR (s : ByteArray) (es : List PE) (nv nt : Int) (code : List Int) : (Int × Int) × List PE × Int × Int × List Int :=
  match badF s s.size 0 with
  | some k => ((2, (k : Int)), es, nv, nt, code)
  | none => loadP s (s.size + 1) 0 es nv nt code

def LoadPost (w : World) (bb : Nat) (ev cv : Value) (R : (Int × Int) × List PE × Int × Int × List Int) (e : Ending) (w' : World) : Prop :=
  e = .returned (.tuple #[.int .i64 R.1.1, .int .i64 R.1.2]) ∧ (∃ ev' cv', PSys w' bb ev' cv' R.2.1 R.2.2.1 R.2.2.2.1 R.2.2.2.2 ∧ Tab w' ∧ Lc w ev ev' ∧ Lc w cv cv') ∧ LInv R.2.1 R.2.2.1 R.2.2.2.1 R.2.2.2.2 ∧ Chg (fun k => k = bb ∨ ev.ownBlock = some k ∨ cv.ownBlock = some k) w w'

set_option maxRecDepth 100000 in
set_option maxHeartbeats 4000000 in
theorem book_load {w : World} {bb : Nat} {ev cv : Value} {es : List PE} {nv nt : Int} {code : List Int} (s : ByteArray) (h : PSys w bb ev cv es nv nt code) (ht : Tab w) (hs : s.size ≤ 1100000) (hi : LInv es nv nt code) :
    Calls Tryz.prog 52 #[.pointer (some ⟨bb, 0, none⟩), .string s] w (LoadPost w bb ev cv (loadR s es nv nt code)) := by
  obtain ⟨R, hR⟩ : ∃ R, R = loadR s es nv nt code := ⟨_, rfl⟩
  rw [← hR]
  unfold loadR at hR
  have HB := hidden (tok_broken s w (by omega))
  have HP := hidden h; have HT := hidden ht; have HI := hidden hi
  clear h ht hi
  cases hbad : badF s s.size 0 with
  | some k =>
    rw [hbad] at hR
    simp only at hR
    rw [hbad] at HB
    subst hR
    clear hbad
    go_enter Tryz.func52, Tryz.ntmps52
    go_wp2_with fail
    refine HB.out.mono ?_
    rintro e w1 ⟨rfl, hb1⟩
    simp only [badRes]
    go_wp2_with fail
    exact bodyPost_ret (v := .tuple #[.int .i64 2, .int .i64 k]) (by simp [results, Tryz.results52, go_sem]) rfl ⟨rfl, ⟨_, _, HP.out.below hb1, HT.out.below hb1, Lc.refl _ _, Lc.refl _ _⟩, HI.out, Chg.ofBelow hb1⟩
  | none =>
    rw [hbad] at hR
    simp only at hR
    rw [hbad] at HB
    have HR := hidden hR
    clear hbad hR
    go_enter Tryz.func52, Tryz.ntmps52
    go_wp2_with fail
    refine HB.out.mono ?_
    rintro e w1 ⟨rfl, hb1⟩
    simp only [badRes]
    have H2 := hidden (rd_new s w1)
    have HB1 := hidden hb1
    clear HB hb1
    go_wp2_with fail
    refine H2.out.mono ?_
    rintro e w2 ⟨rfl, hb2, hc2⟩
    obtain ⟨rb, hrb⟩ : ∃ rb, rb = w1.heap.size := ⟨_, rfl⟩
    rw [← hrb] at hb2 ⊢
    have hrw : w.heap.size ≤ rb := by rw [hrb]; exact HB1.out.size
    have hru : 3 ≤ rb := by have := HT.out.lt; omega
    have HBS0 := hidden (BS.mk ((HP.out.below HB1.out).below hc2) ((HT.out.below HB1.out).below hc2) hb2 hru)
    have HC0 := hidden ((Chg.ofBelow HB1.out : Chg (fun k => k = bb ∨ ev.ownBlock = some k ∨ cv.ownBlock = some k) w w1).trans (Chg.ofBelow hc2))
    clear H2 hb2 hc2 hrb HP HT
    go_wp2_with fail
    go_loopw [9] (fun _ wr => ∃ (a f : Nat) (es' : List PE) (nv' nt' : Int) (code' : List Int) (ev' cv' : Value), BS wr bb rb ev' cv' es' nv' nt' code' s a ∧ Hid (R = loadP s f a es' nv' nt' code') ∧ Hid (LInv es' nv' nt' code' ∧ a ≤ s.size ∧ s.size - a + 1 ≤ f ∧ Lc w ev ev' ∧ Lc w cv cv') ∧ Chg (fun k => k = bb ∨ ev.ownBlock = some k ∨ cv.ownBlock = some k) w wr) (fun _ wr => s.size - atOf wr rb)
    case atStart => exact ⟨0, s.size + 1, es, nv, nt, code, ev, cv, HBS0.out, HR, ⟨HI.out, Nat.zero_le _, by omega, Lc.refl _ _, Lc.refl _ _⟩, HC0.out⟩
    case round =>
      clear HBS0 HC0 HR HB1 HI
      obtain ⟨a, f, es', nv', nt', code', ev', cv', hbs, HRR, HJ, hc⟩ := hrel
      obtain ⟨j1, j2, j3, j4, j5⟩ := HJ.out
      obtain ⟨m1, m2, m3, m4⟩ := nextF_le s (s.size - a) a j2
      have hmv := fun hne => nextF_move s (s.size - a) a j2 hne
      have hN := hidden (rd_next rb s a wr j2 (by omega) hbs.rd)
      obtain ⟨x, hx⟩ : ∃ x, x = nextF s (s.size - a) a := ⟨_, rfl⟩
      have hxx : nx s a = x := hx.symm
      rw [← hx] at hN m1 m2 m3 m4 hmv
      obtain ⟨t, pl, b⟩ := x
      simp only at hN m1 m2 m3 m4 hmv
      obtain ⟨f', rfl⟩ : ∃ f', f = f' + 1 := ⟨f - 1, by omega⟩
      have hrr := HRR.out
      rw [loadP, hxx] at hrr
      simp only at hrr
      have hat : atOf wr rb = a := by unfold atOf; rw [show wr.cell? ⟨rb, 1, none⟩ = some (.int .i64 a) from hbs.rd.cell 1 _ rfl]; simp
      have HBS := hidden hbs; have HRF := hidden hrr; have HMV := hidden hmv; have HAT := hidden hat; have HM := hidden (And.intro m1 (And.intro m2 (And.intro m3 m4))); have HC := hidden hc
      clear hbs hrr hx hxx hmv hat m1 m2 m3 m4 j1 j2 j3 j4 j5 HRR hc
      go_wp2_with fail
      refine hN.out.mono ?_
      rintro e w4 ⟨rfl, hb4, hc4⟩
      have hbs4 := HBS.out.next hb4 hc4
      have hbs5 := hbs4.below ((Below.refl _ _).alloc (Nat.le_refl _) (.cells #[.string t, .int .i64 pl] 163 (0, 0)))
      have HB5 := hidden hbs5
      have HC5 := hidden ((HC.out.thru hc4 (fun k hk e => by omega)).alloc (.cells #[.string t, .int .i64 pl] 163 (0, 0)))
      have hbl : b ≤ s.size := HM.out.2.2.1
      have hk5 := blk_new w4 #[.string t, .int .i64 pl] 163
      obtain ⟨W, hW⟩ : ∃ W, W = w4.alloc (.cells #[.string t, .int .i64 pl] 163 (0, 0)) := ⟨_, rfl⟩
      rw [← hW] at HB5 HC5 hk5
      have p0 : W.cell? ⟨w4.heap.size, 0, none⟩ = some (.string t) := hk5.cell 0 _ rfl
      have p1 : W.cell? ⟨w4.heap.size, 1, none⟩ = some (.int .i64 pl) := hk5.cell 1 _ rfl
      have hwl := hk5.lt
      clear hb4 hc4 hbs4 hbs5 HBS HC hN hk5
      by_cases g1 : (t.toList == []) = true
      · have hRe : R = ((0, 0), es', nv', nt', code') := by have := HRF.out; rw [if_pos g1] at this; exact this
        have HRE := hidden hRe
        clear hRe
        go_wp2_with fail
        rw [← hW, HRE.out]
        obtain ⟨j1, j2, j3, j4, j5⟩ := HJ.out
        exact bodyPost_ret (v := .tuple #[.int .i64 0, .int .i64 0]) (by simp [results, Tryz.results52, go_sem]) rfl ⟨rfl, ⟨_, _, HB5.out.sys, HB5.out.tab, j4, j5⟩, j1, HC5.out⟩
      have g1' : (t.toList == []) = false := by simpa using g1
      have HG1 := hidden g1
      clear g1
      by_cases g2 : (t.toList == [118, 97, 114, 105, 97, 98, 108, 101]) = true
      · have hr2 := HRF.out
        rw [if_neg HG1.out, if_pos g2] at hr2
        have HRV := hidden hr2
        clear hr2 HRF
        go_wp2_with fail
        rw [← hW]
        have hv := book_loadVariable HB5.out hbl (by omega) (by have := HJ.out.1.l; omega) HJ.out.1.v0 HJ.out.1.v1
        have hvi := HJ.out.1.var (s := s) (a := b)
        obtain ⟨m1, m2, m3, m4⟩ := nextF_le s (s.size - b) b hbl
        have hrv := HRV.out
        obtain ⟨V, hV⟩ : ∃ V, V = varP es' nv' s b := ⟨_, rfl⟩
        rw [← hV] at hv hvi hrv
        obtain ⟨⟨r, q⟩, es6, nv6⟩ := V
        refine hv.mono ?_
        rintro e w6 ⟨rfl, ⟨ev6, hb6, hl6⟩, hc6⟩
        simp only at hb6 hvi hrv ⊢
        obtain ⟨j1, j2, j3, j4, j5⟩ := HJ.out
        have hch := HC5.out.thru hc6 (fun k hk e => e.elim (fun e => by omega) (fun e => e.elim Or.inl (fun e => (j4 k e).elim (fun e => Or.inr (Or.inl e)) (fun e => by omega))))
        have hlc : Lc w ev ev6 := j4.trans (hl6.mono HC5.out.size)
        have HB6 := hidden hb6; have HVI := hidden hvi; have HRR := hidden hrv; have HCH := hidden hch; have HLC := hidden hlc; have HNM := hidden (And.intro m2 m3)
        clear hv hV hb6 hl6 hc6 hvi hrv hch hlc j1 j2 j3 j4 j5 m1 m2 m3 m4 HRV HB5 HC5 p0 p1 hW hwl
        by_cases h0 : r = 0
        · subst h0
          go_wp2_with fail
          go_roundw
          case rel =>
            have hrv := HRR.out
            rw [if_pos rfl] at hrv
            obtain ⟨j1, j2, j3, j4, j5⟩ := HJ.out
            have hlt := HMV.out g1'
            obtain ⟨m2, m3⟩ := HNM.out
            exact ⟨_, f', es6, nv6, nt', code', ev6, cv', HB6.out, hidden hrv, ⟨HVI.out, m3, by unfold nx; omega, HLC.out, j5⟩, HCH.out⟩
          case measure =>
            have hlt := HMV.out g1'
            obtain ⟨m2, m3⟩ := HNM.out
            obtain ⟨j1, j2, j3, j4, j5⟩ := HJ.out
            have e1 : atOf w6 rb = (nx s b).2.2 := by unfold atOf; rw [show w6.cell? ⟨rb, 1, none⟩ = some (.int .i64 ((nx s b).2.2 : Nat)) from HB6.out.rd.cell 1 _ rfl]; simp
            rw [e1, HAT.out]
            unfold nx
            omega
        · have h0' : (r == 0) = false := by simpa using h0
          have h0n : (r != 0) = true := by simpa using h0
          have HR0 := hidden h0
          clear h0
          have hRe : R = ((r, q), es6, nv6, nt', code') := by have := HRR.out; rw [if_neg HR0.out] at this; exact this
          have HRE := hidden hRe
          clear hRe
          go_wp2_with fail
          rw [HRE.out]
          exact bodyPost_ret (v := .tuple #[.int .i64 r, .int .i64 q]) (by simp [results, Tryz.results52, go_sem]) rfl ⟨rfl, ⟨_, _, HB6.out.sys, HB6.out.tab, HLC.out, HJ.out.2.2.2.2⟩, HVI.out, HCH.out⟩
      have g2' : (t.toList == [118, 97, 114, 105, 97, 98, 108, 101]) = false := by simpa using g2
      have HG2 := hidden g2
      clear g2
      by_cases g3 : (t.toList == [58]) = true
      · have hr2 := HRF.out
        rw [if_neg HG1.out, if_neg HG2.out, if_pos g3] at hr2
        have HRV := hidden hr2
        clear hr2 HRF
        go_wp2_with fail
        rw [← hW]
        have hv := book_loadWord HB5.out hbl (by omega) (by have := HJ.out.1.l; omega) HJ.out.1.w HJ.out.1.t0 (by have := HJ.out.1.t1; omega) (by have := HJ.out.1.t1; have := HJ.out.1.c; omega)
        have hvi := HJ.out.1.word (s := s) (a := b) hbl
        have hrv := HRV.out
        obtain ⟨V, hV⟩ : ∃ V, V = wordP es' nt' code' s b := ⟨_, rfl⟩
        rw [← hV] at hv hvi hrv
        obtain ⟨⟨r, q⟩, es6, nt6, code6, a6⟩ := V
        refine hv.mono ?_
        rintro e w6 ⟨rfl, ⟨ev6, cv6, b6, hb6, hs6, ha6, hl6, hl7⟩, hc6⟩
        simp only at hb6 hvi hrv ha6 ⊢
        obtain ⟨j1, j2, j3, j4, j5⟩ := HJ.out
        have hch := HC5.out.thru hc6 (fun k hk e => e.elim (fun e => by omega) (fun e => e.elim Or.inl (fun e => e.elim (fun e => (j4 k e).elim (fun e => Or.inr (Or.inl e)) (fun e => by omega)) (fun e => (j5 k e).elim (fun e => Or.inr (Or.inr e)) (fun e => by omega)))))
        have hlc : Lc w ev ev6 := j4.trans (hl6.mono HC5.out.size)
        have hld : Lc w cv cv6 := j5.trans (hl7.mono HC5.out.size)
        have HB6 := hidden hb6; have HVI := hidden hvi; have HRR := hidden hrv; have HCH := hidden hch; have HLC := hidden hlc; have HLD := hidden hld; have HA6 := hidden ha6; have HS6 := hidden hs6
        clear hv hV hb6 hl6 hl7 hc6 hvi hrv hch hlc hld ha6 hs6 j1 j2 j3 j4 j5 HRV HB5 HC5 p0 p1 hW hwl
        by_cases h0 : r = 0
        · subst h0
          go_wp2_with fail
          go_roundw
          case rel =>
            have hrv := HRR.out
            rw [if_pos rfl] at hrv
            obtain ⟨j1, j2, j3, j4, j5⟩ := HJ.out
            have hlt := HMV.out g1'
            have e6 := HA6.out rfl
            have hs6 := HS6.out
            have hge := HVI.out.2 rfl
            subst e6
            exact ⟨_, f', es6, nv', nt6, code6, ev6, cv6, HB6.out, hidden hrv, ⟨HVI.out.1, hs6, by omega, HLC.out, HLD.out⟩, HCH.out⟩
          case measure =>
            have hlt := HMV.out g1'
            obtain ⟨j1, j2, j3, j4, j5⟩ := HJ.out
            have e6 := HA6.out rfl
            have hs6 := HS6.out
            have hge := HVI.out.2 rfl
            have e1 : atOf w6 rb = b6 := by unfold atOf; rw [show w6.cell? ⟨rb, 1, none⟩ = some (.int .i64 (b6 : Nat)) from HB6.out.rd.cell 1 _ rfl]; simp
            rw [e1, HAT.out]
            omega
        · have h0' : (r == 0) = false := by simpa using h0
          have h0n : (r != 0) = true := by simpa using h0
          have HR0 := hidden h0
          clear h0
          have hRe : R = ((r, q), es6, nv', nt6, code6) := by have := HRR.out; rw [if_neg HR0.out] at this; exact this
          have HRE := hidden hRe
          clear hRe
          go_wp2_with fail
          rw [HRE.out]
          exact bodyPost_ret (v := .tuple #[.int .i64 r, .int .i64 q]) (by simp [results, Tryz.results52, go_sem]) rfl ⟨rfl, ⟨_, _, HB6.out.sys, HB6.out.tab, HLC.out, HLD.out⟩, HVI.out.1, HCH.out⟩
      have g3' : (t.toList == [58]) = false := by simpa using g3
      have HG3 := hidden g3
      clear g3
      have hRe : R = ((3, (pl : Int)), es', nv', nt', code') := by have := HRF.out; rw [if_neg HG1.out, if_neg HG2.out, if_neg HG3.out] at this; exact this
      have HRE := hidden hRe
      clear hRe
      go_wp2_with fail
      rw [← hW]
      go_quiet (fail)
      go_wp2_with fail
      rw [HRE.out, ← hW]
      have hbw : Below W.heap.size W (W.drewN nq) := ⟨rfl, rfl, rfl, Nat.le_refl _, fun _ _ => rfl⟩
      obtain ⟨j1, j2, j3, j4, j5⟩ := HJ.out
      exact bodyPost_ret (v := .tuple #[.int .i64 3, .int .i64 pl]) (by simp [results, Tryz.results52, go_sem]) rfl ⟨rfl, ⟨_, _, HB5.out.sys.below hbw, HB5.out.tab.below hbw, j4, j5⟩, j1, HC5.out.trans (Chg.ofBelow hbw)⟩

end Go.Proofs.YtcphhbofjkenaaaGreatDoor

/- The program: New, Load and Find of package forth. -/
namespace Go.Proofs.YtcphhbofjkenaaaGreatDoor
open Go Go.RowKit
set_option linter.unusedVariables false
set_option linter.unusedSimpArgs false

theorem LInv.zero : LInv [] 0 0 [] := ⟨by simp, by simp, by simp, by omega, by omega, by omega, by omega, by simp⟩

theorem forth_new (w : World) (ht : Tab w) :
    Calls Tryz.prog 23 #[] w fun e w' => ∃ bb, w.heap.size ≤ bb ∧ e = .returned (.pointer (some ⟨bb, 0, none⟩)) ∧ PSys w' bb (.slice none 0 0) (.slice none 0 0) [] 0 0 [] ∧ Below w.heap.size w w' := by
  have HT := hidden ht
  clear ht
  go_enter Tryz.func23, Tryz.ntmps23
  go_wp2_with fail
  exact bodyPost_ret (v := .pointer (some ⟨w.heap.size, 0, none⟩)) (by simp [results, Tryz.results23, go_sem]) rfl ⟨_, Nat.le_refl _, rfl, ⟨blk_new w _ _, ⟨rfl, Or.inl ⟨rfl, rfl⟩⟩, ⟨rfl, Or.inl ⟨rfl, rfl⟩⟩, HT.out.lt⟩, (Below.refl _ _).alloc (Nat.le_refl _) _⟩

/-- A system is a book. -/
theorem forth_book (bb : Nat) (w : World) : Calls Tryz.prog 41 #[.pointer (some ⟨bb, 0, none⟩)] w fun e w' => e = .returned (.pointer (some ⟨bb, 0, none⟩)) ∧ w' = w := by
  go_enter Tryz.func41, Tryz.ntmps41
  go_wp2_with fail
  go_ret
  exact ⟨rfl, rfl⟩

theorem forth_load {w : World} {bb : Nat} {ev cv : Value} {es : List PE} {nv nt : Int} {code : List Int} (s : ByteArray) (h : PSys w bb ev cv es nv nt code) (ht : Tab w) (hs : s.size ≤ 1100000) (hi : LInv es nv nt code) :
    Calls Tryz.prog 24 #[.pointer (some ⟨bb, 0, none⟩), .string s] w (LoadPost w bb ev cv (loadR s es nv nt code)) := by
  have H := hidden (book_load s h ht hs hi)
  obtain ⟨R, hR⟩ : ∃ R, R = loadR s es nv nt code := ⟨_, rfl⟩
  rw [← hR] at H ⊢
  have hb := h.blk.lt
  obtain ⟨⟨r, q⟩, es', nv', nt', code'⟩ := R
  clear h ht hi hR
  go_enter Tryz.func24, Tryz.ntmps24
  go_wp2_with fail
  refine (forth_book bb _).mono ?_
  rintro e w' ⟨rfl, rfl⟩
  go_wp2_with fail
  refine H.out.mono ?_
  rintro e w' ⟨rfl, h2⟩
  have H2 := hidden h2
  clear H h2
  go_wp2_with fail
  exact bodyPost_ret (v := .tuple #[.int .i64 r, .int .i64 q]) (by simp [results, Tryz.results24, go_sem]) rfl ⟨rfl, H2.out⟩

theorem forth_find {w : World} {bb : Nat} {ev cv : Value} {es : List PE} {nv nt : Int} {code : List Int} (s : ByteArray) (h : PSys w bb ev cv es nv nt code) (hl : es.length ≤ 1000) :
    Calls Tryz.prog 18 #[.pointer (some ⟨bb, 0, none⟩), .string s] w fun e w' => e = .returned (findRes (lastP es s es.length)) ∧ Below w.heap.size w w' := by
  have HL := hidden (fun w' hb => book_Find s (h.below (w' := w') hb) hl)
  have hb := h.blk.lt
  obtain ⟨R, hR⟩ : ∃ R, R = lastP es s es.length := ⟨_, rfl⟩
  rw [← hR] at HL ⊢
  clear h hR
  obtain ⟨a1, a2, a3, a4, a5, f, hl1⟩ : ∃ (a1 a2 a3 a4 : Int) (a5 : Bool) (f : Int), findRes R = .tuple #[.agg #[.int .i64 a1, .int .i64 a2, .int .i64 a3, .int .i64 a4, .bool a5], .int .i64 f] := by
    rcases R with _ | ⟨n, v, p, i⟩
    · exact ⟨_, _, _, _, _, _, rfl⟩
    · cases v
      · exact ⟨_, _, _, _, _, _, rfl⟩
      · exact ⟨_, _, _, _, _, _, rfl⟩
  rw [hl1] at HL ⊢
  clear hl1
  go_enter Tryz.func18, Tryz.ntmps18
  go_wp2_with fail
  have hb0 : Below w.heap.size w (w.alloc (.cells zero5 36 (0, 0))) := (Below.refl _ _).alloc (Nat.le_refl _) _
  have hk0 := blk_new w zero5 36
  refine (forth_book bb _).mono ?_
  rintro e w' ⟨rfl, rfl⟩
  go_wp2_with fail
  refine (HL.out _ hb0).mono ?_
  rintro e w1 ⟨rfl, hb1⟩
  have hk1 := hk0.sub hb1 (by simp)
  have hlt1 := hk1.lt
  have hbw : Below w.heap.size w w1 := hb0.trans (hb1.mono (by simp))
  have HBW := hidden hbw
  have HK1 := hidden hk1
  clear hb0 hk0 hb1 hk1 hbw HL
  obtain ⟨g0, g1, g2, g3, g4⟩ := HK1.out.free
  obtain ⟨z0, z1, z2, z3, z4⟩ := HK1.out.zero
  go_wp2_with fail
  refine bodyPost_ret (v := .tuple #[.agg #[.int .i64 a1, .int .i64 a2, .int .i64 a3, .int .i64 a4, .bool a5], .int .i64 f]) (by simp [results, Tryz.results18, go_sem, z0, z1, z2, z3, z4, hlt1]) rfl ⟨rfl, ?_⟩
  exact ((((HBW.out.setCell (Nat.le_refl _) _).setCell (Nat.le_refl _) _).setCell (Nat.le_refl _) _).setCell (Nat.le_refl _) _).setCell (Nat.le_refl _) _

end Go.Proofs.YtcphhbofjkenaaaGreatDoor

/- The program: Words. -/
namespace Go.Proofs.YtcphhbofjkenaaaGreatDoor
open Go Go.RowKit
set_option linter.unusedVariables false
set_option linter.unusedSimpArgs false
set_option linter.unnecessarySimpa false

theorem Tryz.infoStr : (Tryz.prog.info? 9).map (fun i => (i.zero, i.size, i.bytes)) = some (some (.string ByteArray.empty), 1, 16) := by kernel_rfl

set_option maxRecDepth 100000 in
set_option maxHeartbeats 4000000 in
theorem book_words {w : World} {bb : Nat} {ev cv : Value} {es : List PE} {nv nt : Int} {code : List Int} (h : PSys w bb ev cv es nv nt code) (hl : es.length ≤ 1000) (ht : Tab w) :
    Calls Tryz.prog 61 #[.pointer (some ⟨bb, 0, none⟩)] w fun e w' => ∃ g, e = .returned (.slice (some ⟨g, 0, none⟩) es.length es.length) ∧ w.heap.size ≤ g ∧ w'.rowIs g 9 es.length (fun i => .string (es.getD i PE.zero).name) ∧ Below w.heap.size w w' := by
  have c0 : w.cell? ⟨bb, 0, none⟩ = some ev := h.blk.cell 0 _ rfl
  have hlt := h.blk.lt
  obtain ⟨ad, cap, hev, hcap, hrow⟩ := row_shape h.row
  rw [hev] at c0
  have HP := hidden h; have HT := hidden ht
  have hmk := run_make_row' (P := Tryz.prog) 71 9 (.string ByteArray.empty) 16 Tryz.underlying71 Tryz.infoStr rfl .i64 .i64 es.length (by omega) (by omega)
  clear h ht
  go_enter Tryz.func61, Tryz.ntmps61
  go_wp2_with fail
  have hr0 := w.rowIs_made (.string ByteArray.empty) es.length 9
  have hb0 : Below w.heap.size w (w.alloc (.cells (madeCells #[.string ByteArray.empty] es.length) 9 (0, 0))) := (Below.refl _ _).alloc (Nat.le_refl _) _
  obtain ⟨H, hH⟩ : ∃ H, H = w.heap.size := ⟨_, rfl⟩
  rw [← hH] at hr0 hb0 ⊢
  have HR0 := hidden hr0; have HB0 := hidden hb0; have HHH := hidden hH
  clear hr0 hb0 hmk hH
  go_loopw [17] (fun i wr => ∃ k : Nat, k ≤ es.length ∧ i = .int .i64 k ∧ Hid (wr.rowIs H 9 es.length (fun j => .string (if j < k then (es.getD j PE.zero).name else ByteArray.empty))) ∧ Hid (Below H w wr)) (fun i _ => es.length - (intOf i).toNat)
  case atStart => exact ⟨0, Nat.zero_le _, rfl, hidden (HR0.out.congr (fun i hi => by simp)), HB0⟩
  case round =>
    clear HR0 HB0
    obtain ⟨k, hk, rfl, HRW, HBW⟩ := hrel
    have hHl := HRW.out.lt
    by_cases hz : k < es.length
    · obtain ⟨x, hx⟩ : ∃ x, x = es.getD k PE.zero := ⟨_, rfl⟩
      have hps := HP.out.below (by rw [← HHH.out]; exact HBW.out)
      obtain ⟨g, cap', hve, _, hg, hcell⟩ := pe_cells hps k hz
      rw [hev] at hve
      obtain ⟨rfl, rfl⟩ : ad = some ⟨g, 0, none⟩ ∧ cap = cap' := by simpa using hve
      rw [← hx] at hcell
      have d0 : wr.cell? ⟨g, k * 8, none⟩ = some (.string x.name) := by simpa [PE.cells] using hcell 0 (by omega)
      have d1 : wr.cell? ⟨g, k * 8 + 1, none⟩ = some (.bool x.var) := by simpa [PE.cells] using hcell 1 (by omega)
      have d2 : wr.cell? ⟨g, k * 8 + 2, none⟩ = some (.int .i64 x.place) := by simpa [PE.cells] using hcell 2 (by omega)
      have d3 : wr.cell? ⟨g, k * 8 + 3, none⟩ = some (.int .i64 x.inf.need) := by simpa [PE.cells] using hcell 3 (by omega)
      have d4 : wr.cell? ⟨g, k * 8 + 4, none⟩ = some (.int .i64 x.inf.net) := by simpa [PE.cells] using hcell 4 (by omega)
      have d5 : wr.cell? ⟨g, k * 8 + 5, none⟩ = some (.int .i64 x.inf.high) := by simpa [PE.cells] using hcell 5 (by omega)
      have d6 : wr.cell? ⟨g, k * 8 + 6, none⟩ = some (.int .i64 x.inf.steps) := by simpa [PE.cells] using hcell 6 (by omega)
      have d7 : wr.cell? ⟨g, k * 8 + 7, none⟩ = some (.bool (!x.inf.str)) := by simpa [PE.cells] using hcell 7 (by omega)
      have q0 := HRW.out.cell hz
      have q1 := HRW.out.frozen k
      have HX := hidden hx
      clear hx hps hcell hve
      go_wp2_with fail
      go_roundw
      case rel =>
        refine ⟨k + 1, by omega, by go_num, hidden (((HRW.out.set k (.string x.name)).alloc _).congr (fun i hi => ?_)), hidden ((HBW.out.setCell (Nat.le_refl _) _).alloc (by have := HBW.out.size; simp [World.setCell]; omega) _)⟩
        by_cases e : i = k
        · subst e
          rw [if_pos rfl, if_pos (by omega), HX.out]
        · rw [if_neg e]
          by_cases e2 : i < k
          · rw [if_pos e2, if_pos (by omega)]
          · rw [if_neg e2, if_neg (by omega)]
      case measure => simp [intOf]; omega
    · obtain rfl : k = es.length := by omega
      go_wp2_with fail
      have hrw := HRW.out.congr (g := fun i => .string (es.getD i PE.zero).name) (fun i hi => by rw [if_pos hi])
      exact bodyPost_ret (v := .slice (some ⟨H, 0, none⟩) es.length es.length) (by simp [results, Tryz.results61, go_sem]) rfl ⟨H, rfl, by rw [HHH.out]; exact Nat.le_refl _, hrw, by have := HBW.out; rw [HHH.out] at this; exact this⟩

theorem forth_words {w : World} {bb : Nat} {ev cv : Value} {es : List PE} {nv nt : Int} {code : List Int} (h : PSys w bb ev cv es nv nt code) (hl : es.length ≤ 1000) (ht : Tab w) :
    Calls Tryz.prog 32 #[.pointer (some ⟨bb, 0, none⟩)] w fun e w' => ∃ g, e = .returned (.slice (some ⟨g, 0, none⟩) es.length es.length) ∧ w.heap.size ≤ g ∧ w'.rowIs g 9 es.length (fun i => .string (es.getD i PE.zero).name) ∧ Below w.heap.size w w' := by
  have H := hidden (book_words h hl ht)
  have hb := h.blk.lt
  clear h ht
  go_enter Tryz.func32, Tryz.ntmps32
  go_wp2_with fail
  refine (forth_book bb _).mono ?_
  rintro e w' ⟨rfl, rfl⟩
  go_wp2_with fail
  refine H.out.mono ?_
  rintro e w' ⟨g, rfl, h1, h2, h3⟩
  have HH := hidden (And.intro h1 (And.intro h2 h3))
  clear H h1 h2 h3
  go_wp2_with fail
  exact bodyPost_ret (v := .slice (some ⟨g, 0, none⟩) es.length es.length) (by simp [results, Tryz.results32, go_sem]) rfl ⟨g, rfl, HH.out⟩

end Go.Proofs.YtcphhbofjkenaaaGreatDoor
