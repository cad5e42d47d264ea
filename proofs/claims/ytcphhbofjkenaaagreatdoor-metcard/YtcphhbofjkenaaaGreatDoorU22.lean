import Derived.Test.YtcphhbofjkenaaaGreatDoorU19
namespace Go.Proofs.YtcphhbofjkenaaaGreatDoor
open Go Go.RowKit
set_option linter.unusedVariables false
set_option linter.unusedSimpArgs false
structure Inf.Sm (i : Inf) : Prop where
 s0 : 0 ≤ i.steps
 s1 : i.steps ≤ 1000000001
 h0 : 0 ≤ i.high
 big : 1000000000 < i.steps ∨ (-4 * i.steps ≤ i.need ∧ i.need ≤ 4 * i.steps ∧ -4 * i.steps ≤ i.net ∧ i.net ≤ 4 * i.steps ∧ i.high ≤ 4 * i.steps)
theorem Inf.Sm.wt {i : Inf} (h : i.Sm) (hs : i.steps ≤ 1000000000) : i.Wt 1 := by
 obtain ⟨a, b, c, d⟩ := h
 constructor <;> omega
theorem Inf.Sm.zero : Inf.zero.Sm := by constructor <;> simp [Inf.zero]
theorem Inf.Sm.then {a b : Inf} (ha : a.Sm) (hb : b.Sm) : (a.then b).Sm := by
 obtain ⟨a1, a2, a3, a4⟩ := ha
 obtain ⟨b1, b2, b3, b4⟩ := hb
 constructor <;> simp only [Inf.then] <;> omega
theorem Inf.Sm.orP {a b : Inf} (ha : a.Sm) (hb : b.Sm) : (a.orP b).Sm := by
 obtain ⟨a1, a2, a3, a4⟩ := ha
 obtain ⟨b1, b2, b3, b4⟩ := hb
 constructor <;> simp only [Inf.orP] <;> omega
theorem Inf.Sm.timesP {a : Inf} {n : Int} (ha : a.Sm) (h0 : 0 ≤ n) : (a.timesP n).Sm := by
 obtain ⟨a1, a2, a3, a4⟩ := ha
 unfold Inf.timesP
 split
 ·constructor <;> simp
 ·rename_i hn
  have hp : a.steps * 1 ≤ a.steps * n := Int.mul_le_mul_of_nonneg_left (by omega) a1
  constructor <;> simp only <;> omega
theorem opInf_sm (k : Nat) (h : k < 35) : (opInf k).Sm := by
 obtain ⟨a, b, c, d⟩ := opTab_bd k h
 constructor <;> simp only [opInf] <;> omega
theorem PE.use_sm {x : PE} (h : x.inf.Sm) : x.use.Sm := by
 unfold PE.use
 split
 ·exact opInf_sm 28 (by omega)
 ·exact (opInf_sm 33 (by omega)).then h
structure PB.Sm (b : PB) : Prop where
 d : b.does.Sm
 o : b.other.Sm
 t : 0 ≤ b.times
theorem PB.Sm.add {b : PB} {i : Inf} (h : b.Sm) (hi : i.Sm) : (b.add i).Sm := ⟨h.d.then hi, h.o, h.t⟩
theorem PB.Sm.z (b : PB) (hd : b.does = Inf.zero) (ho : b.other.Sm) (ht : 0 ≤ b.times) : b.Sm := ⟨by rw [hd]; exact Inf.Sm.zero, ho, ht⟩
theorem step_sm (es : List PE) (hes : ∀ x ∈ es, x.inf.Sm) (nt tk : Int) (dc : List Int) (st : List PB) (kn : Inf) (s : ByteArray) (hst : ∀ b ∈ st, b.Sm)
  (R : SR) (hR : stepP es nt tk dc st kn s = R) (h0 : R.1 = 0) : (∀ b ∈ R.2.2.1, b.Sm) ∧ (R.2.2.1 = [] → R.2.2.2.Wt 1 ∧ R.2.2.2.Sm ∧ nt + tk ≤ 400) ∧ R.2.1.length ≤ dc.length + 2 := by
 cases st with
 | nil =>
  subst hR
  exact absurd h0 (by simp [stepP])
 | cons b r =>
  have hb := hst b (List.mem_cons_self ..)
  have hr : ∀ c ∈ r, c.Sm := fun c hc => hst c (List.mem_cons_of_mem _ hc)
  have two : ∀ {x y : PB} {l : List PB}, x.Sm → y.Sm → (∀ c ∈ l, c.Sm) → ∀ c ∈ x :: y :: l, c.Sm := fun hx hy hl c hc => by
   rcases List.mem_cons.1 hc with rfl | hc
   ·exact hx
   ·rcases List.mem_cons.1 hc with rfl | hc
    ·exact hy
    ·exact hl c hc
  have one : ∀ {x : PB} {l : List PB}, x.Sm → (∀ c ∈ l, c.Sm) → ∀ c ∈ x :: l, c.Sm := fun hx hl c hc => by
   rcases List.mem_cons.1 hc with rfl | hc
   ·exact hx
   ·exact hl c hc
  unfold stepP at hR
  simp only at hR
  have bad : ∀ (E : Int), E ≠ 0 → R = (E, dc, b :: r, kn) → False := fun E hE e => hE (by rw [e] at h0; exact h0)
  by_cases g0 : (s.toList == []) = true
  ·rw [if_pos g0] at hR; exact (bad 5 (by decide) hR.symm).elim
  rw [if_neg g0] at hR
  by_cases g1 : (s.toList == [58]) = true
  ·rw [if_pos g1] at hR; exact (bad 5 (by decide) hR.symm).elim
  rw [if_neg g1] at hR
  by_cases g2 : (s.toList == [118, 97, 114, 105, 97, 98, 108, 101]) = true
  ·rw [if_pos g2] at hR; exact (bad 5 (by decide) hR.symm).elim
  rw [if_neg g2] at hR
  by_cases g3 : (s.toList == [59]) = true
  ·rw [if_pos g3] at hR
   by_cases ho : b.opener = 34
   ·rw [if_pos ho] at hR
    subst hR
    have hs := hb.d.then (opInf_sm 34 (by omega))
    simp only [endErr] at h0
    by_cases q1 : 1000000000 < (b.does.then (opInf 34)).steps
    ·rw [if_pos q1] at h0; exact absurd h0 (by decide)
    rw [if_neg q1] at h0
    by_cases q2 : 400 < nt + tk
    ·rw [if_pos q2] at h0; exact absurd h0 (by decide)
    exact ⟨fun c hc => (List.not_mem_nil hc).elim, fun _ => ⟨hs.wt (by omega), hs, by omega⟩, by simp⟩
   ·rw [if_neg ho] at hR; exact (bad 5 (by decide) hR.symm).elim
  rw [if_neg g3] at hR
  by_cases g4 : (s.toList == [105, 102]) = true
  ·rw [if_pos g4] at hR
   subst hR
   exact ⟨two (PB.Sm.z _ rfl Inf.Sm.zero (Int.le_refl _)) (hb.add (opInf_sm 29 (by omega))) hr, fun e => absurd e (List.cons_ne_nil _ _), by simp⟩
  rw [if_neg g4] at hR
  by_cases g5 : (s.toList == [101, 108, 115, 101]) = true
  ·rw [if_pos g5] at hR
   by_cases ho : b.opener = 29
   ·rw [if_pos ho] at hR
    cases r with
    | nil => exact (bad 5 (by decide) hR.symm).elim
    | cons c r' =>
     simp only at hR
     subst hR
     exact ⟨two (PB.Sm.z _ rfl (hb.d.then (opInf_sm 30 (by omega))) (Int.le_refl _)) (hr c (List.mem_cons_self ..)) (fun x hx => hr x (List.mem_cons_of_mem _ hx)), fun e => absurd e (List.cons_ne_nil _ _), by simp⟩
   ·rw [if_neg ho] at hR; exact (bad 5 (by decide) hR.symm).elim
  rw [if_neg g5] at hR
  by_cases g6 : (s.toList == [116, 104, 101, 110]) = true
  ·rw [if_pos g6] at hR
   by_cases ho : b.opener = 29 ∨ b.opener = 30
   ·rw [if_pos ho] at hR
    by_cases hn : b.does.net = b.other.net
    ·rw [if_pos hn] at hR
     cases r with
     | nil => exact (bad 5 (by decide) hR.symm).elim
     | cons c r' =>
      simp only at hR
      subst hR
      exact ⟨one ((hr c (List.mem_cons_self ..)).add (hb.d.orP hb.o)) (fun x hx => hr x (List.mem_cons_of_mem _ hx)), fun e => absurd e (List.cons_ne_nil _ _), by simp⟩
    ·rw [if_neg hn] at hR; exact (bad 6 (by decide) hR.symm).elim
   ·rw [if_neg ho] at hR; exact (bad 5 (by decide) hR.symm).elim
  rw [if_neg g6] at hR
  by_cases g7 : (s.toList == [100, 111]) = true
  ·rw [if_pos g7] at hR
   by_cases q1 : b.numbers < 2
   ·rw [if_pos q1] at hR; exact (bad 5 (by decide) hR.symm).elim
   rw [if_neg q1] at hR
   by_cases q2 : 1000 < max 0 (b.a0 - b.a1)
   ·rw [if_pos q2] at hR; exact (bad 7 (by decide) hR.symm).elim
   rw [if_neg q2] at hR
   subst hR
   exact ⟨two (PB.Sm.z _ rfl Inf.Sm.zero (Int.le_max_left _ _)) (hb.add (opInf_sm 31 (by omega))) hr, fun e => absurd e (List.cons_ne_nil _ _), by simp⟩
  rw [if_neg g7] at hR
  by_cases g8 : (s.toList == [108, 111, 111, 112]) = true
  ·rw [if_pos g8] at hR
   by_cases ho : b.opener = 31
   ·rw [if_pos ho] at hR
    by_cases hn : b.does.net = 0
    ·rw [if_pos hn] at hR
     cases r with
     | nil => exact (bad 5 (by decide) hR.symm).elim
     | cons c r' =>
      simp only at hR
      subst hR
      exact ⟨one ((hr c (List.mem_cons_self ..)).add ((hb.d.then (opInf_sm 32 (by omega))).timesP hb.t)) (fun x hx => hr x (List.mem_cons_of_mem _ hx)), fun e => absurd e (List.cons_ne_nil _ _), by simp⟩
    ·rw [if_neg hn] at hR; exact (bad 6 (by decide) hR.symm).elim
   ·rw [if_neg ho] at hR; exact (bad 5 (by decide) hR.symm).elim
  rw [if_neg g8] at hR
  by_cases g9 : (numP s).2 = true
  ·rw [if_pos g9] at hR
   subst hR
   have hx := hb.add (opInf_sm 28 (by omega))
   exact ⟨one ⟨hx.d, hx.o, hx.t⟩ hr, fun e => absurd e (List.cons_ne_nil _ _), by simp⟩
  rw [if_neg g9] at hR
  unfold stepW at hR
  cases hlp : lastP es s es.length with
  | some x =>
   rw [hlp] at hR
   simp only at hR
   subst hR
   exact ⟨one (hb.add (PE.use_sm (hes x (lastP_mem es s _ x (Nat.le_refl _) hlp)))) hr, fun e => absurd e (List.cons_ne_nil _ _), by simp⟩
  | none =>
   rw [hlp] at hR
   simp only at hR
   cases hop : opFind s with
   | none =>
    rw [hop] at hR
    exact (bad 3 (by decide) hR.symm).elim
   | some k =>
    rw [hop] at hR
    simp only at hR
    by_cases q : k = 27 ∧ b.inDo = false
    ·rw [if_pos q] at hR; exact (bad 5 (by decide) hR.symm).elim
    ·rw [if_neg q] at hR
     subst hR
     exact ⟨one (hb.add (opInf_sm k (opFind_lt hop))) hr, fun e => absurd e (List.cons_ne_nil _ _), by simp⟩
theorem defP_sm (es : List PE) (hes : ∀ x ∈ es, x.inf.Sm) (nt : Int) (s : ByteArray) : ∀ (f : Nat) (tk : Int) (dc : List Int) (st : List PB) (kn : Inf) (a : Nat), (∀ b ∈ st, b.Sm) → (st = [] → kn.Wt 1 ∧ kn.Sm ∧ nt + tk ≤ 400) → a ≤ s.size →
  ∀ dc' kn' tk' a', defP es nt s f tk dc st kn a = .inl (dc', kn', tk', a') → kn'.Wt 1 ∧ kn'.Sm ∧ nt + tk' ≤ 400 ∧ tk ≤ tk' ∧ (dc'.length : Int) ≤ dc.length + 2 * (tk' - tk) ∧ a ≤ a' ∧ a' ≤ s.size
 | 0, tk, dc, st, kn, a, h1, h2, h3, dc', kn', tk', a', h => by rw [defP] at h; cases h
 | f + 1, tk, dc, [], kn, a, h1, h2, h3, dc', kn', tk', a', h => by
  rw [defP] at h
  cases h
  obtain ⟨i1, i2, i3⟩ := h2 rfl
  exact ⟨i1, i2, i3, Int.le_refl _, by omega, Nat.le_refl _, h3⟩
 | f + 1, tk, dc, b :: r, kn, a, h1, h2, h3, dc', kn', tk', a', h => by
  rw [defP] at h
  obtain ⟨m1, m2, m3, m4⟩ := nextF_le s (s.size - a) a h3
  obtain ⟨T, hT⟩ : ∃ T, T = stepP es nt (tk + 1) dc (b :: r) kn (nx s a).1 := ⟨_, rfl⟩
  rw [← hT] at h
  by_cases h0 : T.1 = 0
  ·rw [if_pos h0] at h
   obtain ⟨k1, k2, k3⟩ := step_sm es hes nt (tk + 1) dc (b :: r) kn (nx s a).1 h1 T hT.symm h0
   obtain ⟨j1, j2, j3, j4, j5, j6, j7⟩ := defP_sm es hes nt s f (tk + 1) T.2.1 T.2.2.1 T.2.2.2 (nx s a).2.2 k1 k2 m3 dc' kn' tk' a' h
   exact ⟨j1, j2, j3, by omega, by omega, by unfold nx at j6; omega, j7⟩
  ·rw [if_neg h0] at h
   cases h
end Go.Proofs.YtcphhbofjkenaaaGreatDoor
namespace Go.Proofs.YtcphhbofjkenaaaGreatDoor
open Go
theorem name_at {es : List PE} {ws : List RW} (h : es.map PE.name = ws.map RW.name) (k : Nat) : nameAt ws k = (es.getD k PE.zero).name := by
 unfold nameAt
 rw [← h, List.getD_eq_getElem?_getD, List.getD_eq_getElem?_getD, List.getElem?_map]
 cases es[k]? <;> rfl
theorem last_find {es : List PE} {ws : List RW} (h : es.map PE.name = ws.map RW.name) (s : ByteArray) : ∀ n, lastP es s n = if 0 ≤ lastK (nameAt ws) s n then some (es.getD (lastK (nameAt ws) s n).toNat PE.zero) else none
 | 0 => by simp [lastP, lastK]
 | n + 1 => by
  unfold lastP lastK
  rw [name_at h n]
  by_cases hc : ((es.getD n PE.zero).name.toList == s.toList) = true
  ·rw [if_pos hc, if_pos hc, if_pos (by omega)]
   simp
  ·rw [if_neg hc, if_neg hc]
   exact last_find h s n
theorem last_findW {es : List PE} {ws : List RW} (h : es.map PE.name = ws.map RW.name) (s : ByteArray) : lastP es s es.length = if 0 ≤ findW ws s then some (es.getD (findW ws s).toNat PE.zero) else none := by
 have hl : es.length = ws.length := by have := congrArg List.length h; simpa using this
 rw [hl]
 exact last_find h s _
end Go.Proofs.YtcphhbofjkenaaaGreatDoor
namespace Go.Proofs.YtcphhbofjkenaaaGreatDoor
open Go Go.RowKit
set_option linter.unusedVariables false
set_option linter.unusedSimpArgs false
structure Inf.Nn (i : Inf) : Prop where
 n : 0 ≤ i.need
 m : 0 ≤ i.need + i.net
 h : 0 ≤ i.high
 k : i.net ≤ i.high
 s : 0 ≤ i.steps
 t : i.steps ≤ 1000000001
theorem Inf.ext' {a b : Inf} (h1 : a.need = b.need) (h2 : a.net = b.net) (h3 : a.high = b.high) (h4 : a.steps = b.steps) (h5 : a.str = b.str) : a = b := by
 cases a; cases b; simp_all
theorem Inf.Nn.zero : Inf.zero.Nn := by constructor <;> simp [Inf.zero]
theorem Inf.Nn.then {a b : Inf} (ha : a.Nn) (hb : b.Nn) : (a.then b).Nn := by
 obtain ⟨a1, a2, a3, a4, a5, a6⟩ := ha
 obtain ⟨b1, b2, b3, b4, b5, b6⟩ := hb
 constructor <;> simp only [Inf.then] <;> omega
theorem Inf.Nn.more {a : Inf} (ha : a.Nn) : a.more.Nn := by
 obtain ⟨a1, a2, a3, a4, a5, a6⟩ := ha
 constructor <;> simp only [Inf.more] <;> omega
theorem Inf.Nn.ways {a b : Inf} (ha : a.Nn) (hb : b.Nn) (hn : a.net = b.net) : (a.ways b).Nn := by
 obtain ⟨a1, a2, a3, a4, a5, a6⟩ := ha
 obtain ⟨b1, b2, b3, b4, b5, b6⟩ := hb
 constructor <;> simp only [Inf.ways] <;> omega
theorem Inf.Nn.times {a : Inf} (ha : a.Nn) {n : Int} (hn : 0 ≤ n) : (a.times n).Nn := by
 obtain ⟨a1, a2, a3, a4, a5, a6⟩ := ha
 have hp : 0 ≤ n * min (a.steps + 1) 1000000001 := Int.mul_nonneg hn (by omega)
 unfold Inf.times
 split <;> constructor <;> simp only <;> omega
theorem Inf.Nn.plain {t p : Int} (ht : 0 ≤ t) (hp : 0 ≤ p) : (Inf.plain t p).Nn := by
 constructor <;> simp only [Inf.plain] <;> omega
theorem then_assoc {a b c : Inf} (ha : a.Nn) (hb : b.Nn) (hc : c.Nn) : (a.then b).then c = a.then (b.then c) := by
 obtain ⟨a1, a2, a3, a4, a5, a6⟩ := ha
 obtain ⟨b1, b2, b3, b4, b5, b6⟩ := hb
 obtain ⟨c1, c2, c3, c4, c5, c6⟩ := hc
 refine Inf.ext' ?_ ?_ ?_ ?_ ?_ <;> simp only [Inf.then]
 ·omega
 ·omega
 ·omega
 ·omega
 ·exact Bool.and_assoc _ _ _
theorem op_none : opInf 30 = ⟨0, 0, 0, 1, true⟩ ∧ opInf 32 = ⟨0, 0, 0, 1, true⟩ ∧ opInf 33 = ⟨0, 0, 0, 1, true⟩ ∧ opInf 34 = ⟨0, 0, 0, 1, true⟩ := ⟨rfl, rfl, rfl, rfl⟩
theorem op_some : opInf 28 = Inf.plain 0 1 ∧ opInf 29 = ⟨1, -1, 0, 1, false⟩ ∧ opInf 31 = Inf.plain 2 0 := ⟨rfl, rfl, rfl⟩
theorem then_one {i : Inf} (h : i.Nn) : i.then ⟨0, 0, 0, 1, true⟩ = i.more := by
 obtain ⟨a1, a2, a3, a4, a5, a6⟩ := h
 refine Inf.ext' ?_ ?_ ?_ ?_ ?_ <;> simp only [Inf.then, Inf.more]
 ·omega
 ·omega
 ·omega
 ·simp
theorem one_then {i : Inf} (h : i.Nn) : Inf.then ⟨0, 0, 0, 1, true⟩ i = i.more := by
 obtain ⟨a1, a2, a3, a4, a5, a6⟩ := h
 refine Inf.ext' ?_ ?_ ?_ ?_ ?_ <;> simp only [Inf.then, Inf.more]
 ·omega
 ·omega
 ·omega
 ·omega
 ·simp
theorem if_eq {d x y : Inf} (hd : d.Nn) (hx : x.Nn) (hy : y.Nn) (hn : x.net = y.net) : (d.then (opInf 29)).then (x.orP y) = d.then ((Inf.plain 1 0).then (y.ways x)) := by
 obtain ⟨a1, a2, a3, a4, a5, a6⟩ := hd
 obtain ⟨b1, b2, b3, b4, b5, b6⟩ := hx
 obtain ⟨c1, c2, c3, c4, c5, c6⟩ := hy
 rw [op_some.2.1]
 refine Inf.ext' ?_ ?_ ?_ ?_ ?_ <;> simp only [Inf.then, Inf.orP, Inf.ways, Inf.plain]
 ·omega
 ·omega
 ·omega
 ·omega
 ·simp
theorem do_eq {d x : Inf} {n : Int} (hd : d.Nn) (hx : x.Nn) (hn : 0 ≤ n) : (d.then (opInf 31)).then ((x.then (opInf 32)).timesP n) = d.then ((Inf.plain 2 0).then (x.times n)) := by
 have e : (x.then (opInf 32)).timesP n = x.times n := by
  rw [op_none.2.1, then_one hx]
  unfold Inf.timesP Inf.times
  split
  ·rfl
  ·refine Inf.ext' ?_ ?_ ?_ ?_ ?_ <;> simp only [Inf.more]
   rw [Int.mul_comm]
 rw [e, op_some.2.2, ← then_assoc hd (Inf.Nn.plain (by omega) (by omega)) (hx.times hn)]
theorem infAt_snoc (l : List AI) (x : AI) (j : Nat) (h : j < l.length) : infAt (l ++ [x]) j = infAt l j := by
 unfold infAt
 simp [List.getD, List.getElem?_append_left, h]
theorem upTo_congr {f g : Nat → Inf} : ∀ n, (∀ j, j < n → f j = g j) → upTo f n = upTo g n
 | 0, _ => rfl
 | n + 1, h => by rw [upTo, upTo, upTo_congr n (fun j hj => h j (by omega)), h n (by omega)]
theorem infL_snoc (l : List AI) (x : AI) : infL (l ++ [x]) = (infL l).then x.inf := by
 unfold infL
 rw [show (l ++ [x]).length = l.length + 1 by simp, upTo, upTo_congr l.length (fun j hj => infAt_snoc l x j hj)]
 congr 1
 simp [infAt]
theorem infL_nil : infL [] = Inf.zero := rfl
def NumR (b : PB) (l : List AI) : Prop :=
 match l.reverse with
 | ⟨some y, _, _⟩ :: ⟨some x, _, _⟩ :: _ => b.numbers = 2 ∧ b.a0 = x ∧ b.a1 = y
 | ⟨some y, _, _⟩ :: _ => b.numbers = 1 ∧ b.a1 = y
 | _ => b.numbers = 0
theorem NumR.none {b : PB} {l : List AI} {i : Inf} {t : IT} (h : b.numbers = 0) : NumR b (l ++ [⟨none, i, t⟩]) := by
 unfold NumR; simp [h]
theorem NumR.some {b b' : PB} {l : List AI} {i : Inf} {t : IT} {n : Int} (h : NumR b l) (h1 : b'.numbers = min (b.numbers + 1) 2) (h2 : b'.a0 = b.a1) (h3 : b'.a1 = n) : NumR b' (l ++ [⟨some n, i, t⟩]) := by
 unfold NumR at h ⊢
 rw [List.reverse_append]
 generalize l.reverse = q at h
 match q, h with
 | [], h => simp at h ⊢; omega
 | ⟨Option.none, _, _⟩ :: _, h => simp at h ⊢; omega
 | [⟨Option.some y, _, _⟩], h => simp at h ⊢; omega
 | ⟨Option.some y, _, _⟩ :: ⟨Option.none, _, _⟩ :: _, h => simp at h ⊢; omega
 | ⟨Option.some y, _, _⟩ :: ⟨Option.some x, _, _⟩ :: _, h => simp at h ⊢; omega
theorem NumR.two {b : PB} {l : List AI} (h : NumR b l) : (b.numbers < 2 ∧ lastTwo l = Option.none) ∨ (b.numbers = 2 ∧ lastTwo l = Option.some (b.a0, b.a1)) := by
 unfold NumR at h
 unfold lastTwo
 generalize l.reverse = q at h
 match q, h with
 | [], h => left; simp at h ⊢; omega
 | ⟨Option.none, _, _⟩ :: _, h => left; simp at h ⊢; omega
 | [⟨Option.some y, _, _⟩], h => left; simp at h ⊢; omega
 | ⟨Option.some y, _, _⟩ :: ⟨Option.none, _, _⟩ :: _, h => left; simp at h ⊢; omega
 | ⟨Option.some y, _, _⟩ :: ⟨Option.some x, _, _⟩ :: _, h => right; simp at h ⊢; exact ⟨h.1, h.2.1.symm, h.2.2.symm⟩
structure At (s : ByteArray) (toks : List Tk) (I a : Nat) : Prop where
 le : a ≤ s.size
 tk : toksAt s a = toks.drop I
 sd : Sound s a
theorem next_end (s : ByteArray) : ∀ (f a : Nat), a ≤ s.size → s.size - a ≤ f → toksAt s a = [] → (nextF s f a).2.1 = s.size := by
 have main : ∀ a, a ≤ s.size → toksAt s a = toksAt s (cutB s a) ∧ (cutB s a < s.size → blk (byt s (cutB s a)) = false) := fun a ha => by
  have hB := scan_spec ink s a ha
  refine ⟨toks_skip s (cutB s a - a) a (cutB s a) (by have := hB.1; unfold cutB; omega) hB.2.1 (fun x h1 h2 => ?_), fun h => ?_⟩
  ·have := hB.2.2.1 x h1 h2
   unfold ink at this; simpa using this
  ·rcases hB.2.2.2 with e | e
   ·exact absurd e (by unfold cutB at h; omega)
   ·have e' : (!blk (byt s (cutB s a))) = true := e
    simpa using e'
 intro f
 induction f with
 | zero =>
  intro a ha hf h
  obtain ⟨l1, l2, l3⟩ := cut_le s a ha
  unfold nextF; simp only; omega
 | succ f ih =>
  intro a ha hf h
  obtain ⟨l1, l2, l3⟩ := cut_le s a ha
  unfold nextF
  by_cases hb : cutB s a < s.size
  ·have hk := (main a ha).2 hb
   have hlt : cutB s a < cutE s a := scan_blk_lt s _ hb hk
   by_cases hn : ((s.extract (cutB s a) (cutE s a)).toList == [92]) = true
   ·rw [if_pos hn]
    have hsp := scan_spec eol s (cutE s a) l3
    have e : toksAt s a = toksAt s (scan eol s (cutE s a)) := by
     rw [(main a ha).1, toksAt_note s _ hb hk ((ext_list _ _).1 hn)]; rfl
    exact ih _ hsp.2.1 (by have := hsp.1; omega) (by rw [← e]; exact h)
   ·exfalso
    rw [(main a ha).1, toksAt_tok s _ hb hk (fun e => hn ((ext_list _ _).2 e))] at h
    cases h
  ·have e : cutB s a = s.size := by omega
   split
   ·have hsp := scan_spec eol s (cutE s a) l3
    exact ih _ hsp.2.1 (by have := hsp.1; omega) (toksAt_end s _ (by have := hsp.1; omega))
   ·exact e
theorem At.next {s : ByteArray} {toks : List Tk} {I a : Nat} (h : At s toks I a) (hI : I ≤ toks.length) :
  (nx s a).1 = tokS toks I ∧ ((nx s a).2.1 : Int) = plc toks s.size I ∧ ((tokS toks I).toList = [] ∨ (I < toks.length ∧ At s toks (I + 1) (nx s a).2.2)) := by
 have hle := (nextF_le s (s.size - a) a h.le)
 rcases next_tok s (s.size - a) a h.le (Nat.le_refl _) with ⟨h1, h2⟩ | ⟨h1, h2⟩
 ·have hd : toks.drop I = [] := by rw [← h.tk]; exact h1
  have hl : toks.length ≤ I := by
   have := congrArg List.length hd
   simp at this; omega
  have ht : tokS toks I = ⟨#[]⟩ := by simp [tokS, List.getD, List.getElem?_eq_none hl]
  refine ⟨by rw [ht]; exact h2, ?_, Or.inl (by rw [ht]; exact ba_list [])⟩
  have := next_end s (s.size - a) a h.le (Nat.le_refl _) h1
  unfold nx; rw [this]
  simp [plc, Nat.not_lt.2 hl]
 ·have hd := h.tk
  rw [h1] at hd
  have hl : I < toks.length := by
   rcases Nat.lt_or_ge I toks.length with h3 | h3
   ·exact h3
   ·rw [List.drop_eq_nil_of_le h3] at hd; cases hd
  rw [List.drop_eq_getElem_cons hl] at hd
  have e1 := (List.cons.inj hd).1
  have e2 := (List.cons.inj hd).2
  refine ⟨?_, ?_, Or.inr ⟨hl, ⟨hle.2.2.1, e2, (next_name h.sd h.le).2⟩⟩⟩
  ·simp [tokS, hl, ← e1, nx]
  ·simp [plc, hl, ← e1, nx]
theorem At.name {s : ByteArray} {toks : List Tk} {I a : Nat} (h : At s toks I a) (hI : I ≤ toks.length) : nameP (nx s a).1 = nameS (tokS toks I) := by
 rw [← (h.next hI).1]; exact (next_name h.sd h.le).1
inductive CItem (es : List PE) (code : List Int) : Bool → IT → Nat → Nat → Prop
 | num (d : Bool) (n : Int) (p : Nat) (h : -2147483648 ≤ n ∧ n ≤ 2147483647) (h1 : code[p]? = some 28) (h2 : code[p + 1]? = some n) : CItem es code d (.num n) p (p + 2)
 | op (d : Bool) (s : ByteArray) (k p : Nat) (h : opFind s = some k) (h1 : code[p]? = some (k : Int)) (h2 : k = 27 → d = true) : CItem es code d (.op s) p (p + 1)
 | var (d : Bool) (k : Nat) (x : PE) (p : Nat) (h : es[k]? = some x) (hv : x.var = true) (h1 : code[p]? = some 28) (h2 : code[p + 1]? = some x.place) : CItem es code d (.own k) p (p + 2)
 | own (d : Bool) (k : Nat) (x : PE) (p : Nat) (h : es[k]? = some x) (hv : x.var = false) (h1 : code[p]? = some 33) (h2 : code[p + 1]? = some x.place) : CItem es code d (.own k) p (p + 2)
 | iff (d : Bool) (a : List IT) (p q : Nat) (ps : Nat → Nat) (h1 : code[p]? = some 29) (h2 : code[p + 1]? = some (q : Int)) (h3 : ps 0 = p + 2) (h4 : ps a.length = q) (h5 : ∀ (i : Nat) (t : IT), a[i]? = some t → CItem es code d t (ps i) (ps (i + 1))) : CItem es code d (.iff a) p q
 | els (d : Bool) (a b : List IT) (p q r : Nat) (ps qs : Nat → Nat) (h1 : code[p]? = some 29) (h2 : code[p + 1]? = some ((q + 2 : Nat) : Int)) (h3 : ps 0 = p + 2) (h4 : ps a.length = q) (h5 : ∀ (i : Nat) (t : IT), a[i]? = some t → CItem es code d t (ps i) (ps (i + 1)))
   (k1 : code[q]? = some 30) (k2 : code[q + 1]? = some (r : Int)) (k3 : qs 0 = q + 2) (k4 : qs b.length = r) (k5 : ∀ (i : Nat) (t : IT), b[i]? = some t → CItem es code d t (qs i) (qs (i + 1))) : CItem es code d (.els a b) p r
 | doo (d : Bool) (a : List IT) (p q : Nat) (ps : Nat → Nat) (h1 : code[p]? = some 31) (h2 : code[p + 1]? = some ((q + 2 : Nat) : Int)) (h3 : ps 0 = p + 2) (h4 : ps a.length = q) (h5 : ∀ (i : Nat) (t : IT), a[i]? = some t → CItem es code true t (ps i) (ps (i + 1)))
   (k1 : code[q]? = some 32) (k2 : code[q + 1]? = some ((p + 2 : Nat) : Int)) : CItem es code d (.doo a) p (q + 2)
theorem chain {a : List IT} {ps : Nat → Nat} {L : Nat} (h : ∀ (i : Nat) (t : IT), a[i]? = some t → ps i < ps (i + 1) ∧ ps (i + 1) ≤ L) (h0 : ps 0 ≤ L) : ∀ j, j ≤ a.length → ps j ≤ L ∧ ∀ i, i ≤ j → ps i ≤ ps j
 | 0, _ => ⟨h0, fun i hi => by rw [show i = 0 by omega]; exact Nat.le_refl _⟩
 | j + 1, hj => by
  obtain ⟨h1, h2⟩ := h j a[j] (List.getElem?_eq_getElem (by omega))
  obtain ⟨_, h4⟩ := chain h h0 j (by omega)
  refine ⟨h2, fun i hi => ?_⟩
  rcases Nat.lt_or_ge i (j + 1) with e | e
  ·have := h4 i (by omega); omega
  ·rw [show i = j + 1 by omega]; exact Nat.le_refl _
theorem code_lt {code : List Int} {p : Nat} {x : Int} (h : code[p]? = some x) : p < code.length := (List.getElem?_eq_some_iff.1 h).1
theorem CItem.le {es : List PE} {code : List Int} {d : Bool} {t : IT} {p q : Nat} (h : CItem es code d t p q) : p < q ∧ q ≤ code.length := by
 induction h with
 | num d n p h h1 h2 => have := code_lt h2; omega
 | op d s k p h h1 h2 => have := code_lt h1; omega
 | var d k x p h hv h1 h2 => have := code_lt h2; omega
 | own d k x p h hv h1 h2 => have := code_lt h2; omega
 | iff d a p q ps h1 h2 h3 h4 h5 ih =>
  have := code_lt h2
  obtain ⟨c1, c2⟩ := chain ih (by omega) a.length (Nat.le_refl _)
  have := c2 0 (by omega)
  omega
 | els d a b p q r ps qs h1 h2 h3 h4 h5 k1 k2 k3 k4 k5 ih ih2 =>
  have := code_lt h2
  have := code_lt k2
  obtain ⟨c1, c2⟩ := chain ih (by omega) a.length (Nat.le_refl _)
  obtain ⟨d1, d2⟩ := chain ih2 (by omega) b.length (Nat.le_refl _)
  have := c2 0 (by omega)
  have := d2 0 (by omega)
  omega
 | doo d a p q ps h1 h2 h3 h4 h5 k1 k2 ih =>
  have := code_lt h2
  have := code_lt k2
  obtain ⟨c1, c2⟩ := chain ih (by omega) a.length (Nat.le_refl _)
  have := c2 0 (by omega)
  omega
theorem CItem.stable {es es' : List PE} {code code' : List Int} {d : Bool} {t : IT} {p q : Nat} (h : CItem es code d t p q) (he : ∀ (k : Nat) (x : PE), es[k]? = some x → es'[k]? = some x) (hc : ∀ i, p ≤ i → i < q → code'[i]? = code[i]?) : CItem es' code' d t p q := by
 induction h with
 | num d n p h h1 h2 => exact .num d n p h ((hc p (by omega) (by omega)).trans h1) ((hc (p + 1) (by omega) (by omega)).trans h2)
 | op d s k p h h1 h2 => exact .op d s k p h ((hc p (by omega) (by omega)).trans h1) h2
 | var d k x p h hv h1 h2 => exact .var d k x p (he _ _ h) hv ((hc p (by omega) (by omega)).trans h1) ((hc (p + 1) (by omega) (by omega)).trans h2)
 | own d k x p h hv h1 h2 => exact .own d k x p (he _ _ h) hv ((hc p (by omega) (by omega)).trans h1) ((hc (p + 1) (by omega) (by omega)).trans h2)
 | iff d a p q ps h1 h2 h3 h4 h5 ih =>
  have hl := code_lt h2
  have hch := chain (fun i t ht => (h5 i t ht).le) (by omega)
  have hq := (hch a.length (Nat.le_refl _)).2 0 (by omega)
  refine .iff d a p q ps ((hc p (by omega) (by omega)).trans h1) ((hc (p + 1) (by omega) (by omega)).trans h2) h3 h4 (fun i t ht => ih i t ht (fun j j1 j2 => hc j ?_ ?_))
  ·have hi := (List.getElem?_eq_some_iff.1 ht).1
   have := (hch i (by omega)).2 0 (by omega)
   omega
  ·have hi := (List.getElem?_eq_some_iff.1 ht).1
   have := (hch a.length (Nat.le_refl _)).2 (i + 1) (by omega)
   omega
 | els d a b p q r ps qs h1 h2 h3 h4 h5 k1 k2 k3 k4 k5 ih ih2 =>
  have hl := code_lt h2
  have hl2 := code_lt k2
  have hch := chain (fun i t ht => (h5 i t ht).le) (by omega)
  have hq := (hch a.length (Nat.le_refl _)).2 0 (by omega)
  have hch2 := chain (fun i t ht => (k5 i t ht).le) (by omega)
  have hq2 := (hch2 b.length (Nat.le_refl _)).2 0 (by omega)
  refine .els d a b p q r ps qs ((hc p (by omega) (by omega)).trans h1) ((hc (p + 1) (by omega) (by omega)).trans h2) h3 h4 (fun i t ht => ih i t ht (fun j j1 j2 => hc j ?_ ?_)) ((hc q (by omega) (by omega)).trans k1) ((hc (q + 1) (by omega) (by omega)).trans k2) k3 k4 (fun i t ht => ih2 i t ht (fun j j1 j2 => hc j ?_ ?_))
  ·have hi := (List.getElem?_eq_some_iff.1 ht).1
   have := (hch i (by omega)).2 0 (by omega)
   omega
  ·have hi := (List.getElem?_eq_some_iff.1 ht).1
   have := (hch a.length (Nat.le_refl _)).2 (i + 1) (by omega)
   omega
  ·have hi := (List.getElem?_eq_some_iff.1 ht).1
   have := (hch2 i (by omega)).2 0 (by omega)
   omega
  ·have hi := (List.getElem?_eq_some_iff.1 ht).1
   have := (hch2 b.length (Nat.le_refl _)).2 (i + 1) (by omega)
   omega
 | doo d a p q ps h1 h2 h3 h4 h5 k1 k2 ih =>
  have hl := code_lt h2
  have hl2 := code_lt k2
  have hch := chain (fun i t ht => (h5 i t ht).le) (by omega)
  have hq := (hch a.length (Nat.le_refl _)).2 0 (by omega)
  refine .doo d a p q ps ((hc p (by omega) (by omega)).trans h1) ((hc (p + 1) (by omega) (by omega)).trans h2) h3 h4 (fun i t ht => ih i t ht (fun j j1 j2 => hc j ?_ ?_)) ((hc q (by omega) (by omega)).trans k1) ((hc (q + 1) (by omega) (by omega)).trans k2)
  ·have hi := (List.getElem?_eq_some_iff.1 ht).1
   have := (hch i (by omega)).2 0 (by omega)
   omega
  ·have hi := (List.getElem?_eq_some_iff.1 ht).1
   have := (hch a.length (Nat.le_refl _)).2 (i + 1) (by omega)
   omega
def CList (es : List PE) (code : List Int) (d : Bool) (l : List IT) (p q : Nat) : Prop := ∃ ps : Nat → Nat, ps 0 = p ∧ ps l.length = q ∧ ∀ (i : Nat) (t : IT), l[i]? = some t → CItem es code d t (ps i) (ps (i + 1))
theorem CList.nil (es : List PE) (code : List Int) (d : Bool) (p : Nat) : CList es code d [] p p := ⟨fun _ => p, rfl, rfl, fun i t h => by simp at h⟩
theorem CList.le {es : List PE} {code : List Int} {d : Bool} {l : List IT} {p q : Nat} (h : CList es code d l p q) (hp : p ≤ code.length) : p ≤ q ∧ q ≤ code.length := by
 obtain ⟨ps, h1, h2, h3⟩ := h
 obtain ⟨c1, c2⟩ := chain (fun i t ht => (h3 i t ht).le) (by omega) l.length (Nat.le_refl _)
 have := c2 0 (by omega)
 omega
theorem CList.stable {es es' : List PE} {code code' : List Int} {d : Bool} {l : List IT} {p q : Nat} (h : CList es code d l p q) (hp : p ≤ code.length) (he : ∀ (k : Nat) (x : PE), es[k]? = some x → es'[k]? = some x) (hc : ∀ i, p ≤ i → i < q → code'[i]? = code[i]?) : CList es' code' d l p q := by
 obtain ⟨ps, h1, h2, h3⟩ := h
 have hch := chain (fun i t ht => (h3 i t ht).le) (by omega)
 refine ⟨ps, h1, h2, fun i t ht => (h3 i t ht).stable he (fun j j1 j2 => hc j ?_ ?_)⟩
 ·have hi := (List.getElem?_eq_some_iff.1 ht).1
  have := (hch i (by omega)).2 0 (by omega)
  omega
 ·have hi := (List.getElem?_eq_some_iff.1 ht).1
  have := (hch l.length (Nat.le_refl _)).2 (i + 1) (by omega)
  omega
theorem CList.snoc {es : List PE} {code : List Int} {d : Bool} {l : List IT} {t : IT} {p q r : Nat} (h : CList es code d l p q) (ht : CItem es code d t q r) : CList es code d (l ++ [t]) p r := by
 obtain ⟨ps, h1, h2, h3⟩ := h
 refine ⟨fun i => if i ≤ l.length then ps i else r, by simp [h1], by simp only [List.length_append, List.length_cons, List.length_nil]; rw [if_neg (by omega)], fun i u hu => ?_⟩
 simp only
 by_cases hi : i < l.length
 ·rw [List.getElem?_append_left hi] at hu
  rw [if_pos (by omega), if_pos (by omega)]
  exact h3 i u hu
 ·rw [List.getElem?_append_right (by omega)] at hu
  have h0 : i - l.length = 0 := by have := (List.getElem?_eq_some_iff.1 hu).1; simp at this; omega
  rw [h0] at hu
  obtain rfl : t = u := by simpa using hu
  obtain rfl : i = l.length := by omega
  rw [if_pos (Nat.le_refl _), if_neg (by omega), h2]
  exact ht
def CO (es : List PE) (dc : List Int) (p : Nat) (loops : Int) (l : List AI) : Prop := p ≤ dc.length ∧ CList es dc (decide (0 < loops)) (trees l) p dc.length
theorem CO.snoc {es : List PE} {dc dc' : List Int} {p : Nat} {loops : Int} {l : List AI} {x : AI} (h : CO es dc p loops l) (hl : dc.length ≤ dc'.length) (hc : ∀ i, i < dc.length → dc'[i]? = dc[i]?) (hx : CItem es dc' (decide (0 < loops)) x.tree dc.length dc'.length) : CO es dc' p loops (l ++ [x]) ∧ ∀ i, i < p → dc'[i]? = dc[i]? := by
 refine ⟨⟨Nat.le_trans h.1 hl, ?_⟩, fun i hi => hc i (Nat.lt_of_lt_of_le hi h.1)⟩
 unfold trees
 rw [List.map_append]
 exact (h.2.stable h.1 (fun _ _ => id) (fun i _ hi => hc i hi)).snoc hx
theorem CO.nil (es : List PE) (dc : List Int) (loops : Int) : CO es dc dc.length loops [] := ⟨Nat.le_refl _, CList.nil _ _ _ _⟩
structure Alike (es : List PE) (ws : List RW) : Prop where
 names : es.map PE.name = ws.map RW.name
 use : ∀ (k : Nat) (x : PE) (y : RW), es[k]? = some x → ws[k]? = some y → (x.var = true → y.var = x.place ∧ 0 ≤ y.var) ∧ (x.var = false → y.var = -1 ∧ x.inf = y.inf ∧ y.inf.Nn ∧ 1 ≤ y.inf.steps ∧ y.inf.steps ≤ 1000000000)
theorem Alike.len {es : List PE} {ws : List RW} (h : Alike es ws) : es.length = ws.length := by
 have := congrArg List.length h.names
 simpa using this
structure BR (b : PB) (l : List AI) (loops : Int) : Prop where
 does : b.does = infL l
 nn : (infL l).Nn
 ido : b.inDo = decide (0 < loops)
 num : NumR b l
structure Same (b b' : PB) : Prop where
 op : b'.opener = b.opener
 ido : b'.inDo = b.inDo
 hole : b'.hole = b.hole
 times : b'.times = b.times
 other : b'.other = b.other
theorem Same.refl (b : PB) : Same b b := ⟨rfl, rfl, rfl, rfl, rfl⟩
theorem Same.trans {a b c : PB} (h : Same a b) (h' : Same b c) : Same a c := ⟨h'.op.trans h.op, h'.ido.trans h.ido, h'.hole.trans h.hole, h'.times.trans h.times, h'.other.trans h.other⟩
theorem Same.add (b : PB) (i : Inf) : Same b (b.add i) := ⟨rfl, rfl, rfl, rfl, rfl⟩
def endsOf (o : Int) : List ByteArray := if o = 29 then [tElse, tThen] else if o = 30 then [tThen] else if o = 31 then [tLoop] else [tSemi]
def Opn (b : PB) : Prop := b.opener = 29 ∨ b.opener = 30 ∨ b.opener = 31 ∨ b.opener = 34
theorem Opn.none {b : PB} (h : Opn b) : inL ⟨#[]⟩ (endsOf b.opener) = false := by
 rcases h with h | h | h | h <;> rw [h]
 ·exact ends1
 ·exact ends2
 ·exact ends3
 ·exact ends4
theorem BR.snoc {b : PB} {l : List AI} {loops : Int} (h : BR b l loops) (i : Inf) (t : IT) (hi : i.Nn) : BR (b.add i) (l ++ [⟨none, i, t⟩]) loops :=
 ⟨by rw [infL_snoc]; simp [PB.add, h.does], by rw [infL_snoc]; exact h.nn.then hi, h.ido, NumR.none rfl⟩
theorem defP_err1 {es : List PE} {nt : Int} {s : ByteArray} {g : Nat} {tk : Int} {dc : List Int} {b : PB} {r : List PB} {kn : Inf} {a : Nat} {E : Int} (h : (stepP es nt (tk + 1) dc (b :: r) kn (nx s a).1).1 = E) (hE : E ≠ 0) : defP es nt s (g + 1) tk dc (b :: r) kn a = .inr (E, ((nx s a).2.1 : Int)) := by
 rw [defP, h, if_neg hE]
theorem defP_ok1 {es : List PE} {nt : Int} {s : ByteArray} {g : Nat} {tk : Int} {dc dc' : List Int} {b : PB} {r st' : List PB} {kn kn' : Inf} {a : Nat} (h : stepP es nt (tk + 1) dc (b :: r) kn (nx s a).1 = (0, dc', st', kn')) : defP es nt s (g + 1) tk dc (b :: r) kn a = defP es nt s g (tk + 1) dc' st' kn' (nx s a).2.2 := by
 rw [defP, h]; simp
theorem stray_iff (t : ByteArray) : inL t stray = true ↔ (t.toList = [] ∨ t.toList = [101, 108, 115, 101] ∨ t.toList = [116, 104, 101, 110] ∨ t.toList = [108, 111, 111, 112] ∨ t.toList = [59] ∨ t.toList = [58] ∨ t.toList = [118, 97, 114, 105, 97, 98, 108, 101]) := by
 unfold inL stray tElse tThen tLoop tSemi tColon tVar
 simp only [List.any_cons, List.any_nil, ba_list, Bool.or_false, Bool.or_eq_true, beq_iff_eq]
 constructor
 ·rintro (h | h | h | h | h | h | h) <;> simp [← h]
 ·rintro (h | h | h | h | h | h | h) <;> simp [h]
theorem stray_cases {t : ByteArray} (h : inL t stray = true) : t.toList = [] ∨ t.toList = [101, 108, 115, 101] ∨ t.toList = [116, 104, 101, 110] ∨ t.toList = [108, 111, 111, 112] ∨ t.toList = [59] ∨ t.toList = [58] ∨ t.toList = [118, 97, 114, 105, 97, 98, 108, 101] := (stray_iff t).1 h
theorem stray_not {t : ByteArray} (h : inL t stray = false) : t.toList ≠ [] ∧ t.toList ≠ [101, 108, 115, 101] ∧ t.toList ≠ [116, 104, 101, 110] ∧ t.toList ≠ [108, 111, 111, 112] ∧ t.toList ≠ [59] ∧ t.toList ≠ [58] ∧ t.toList ≠ [118, 97, 114, 105, 97, 98, 108, 101] := by
 have h2 : ¬ inL t stray = true := by simp [h]
 rw [stray_iff] at h2
 simp only [not_or] at h2
 exact h2
theorem end_two {t : ByteArray} (h : inL t [tElse, tThen] = true) : t.toList = [101, 108, 115, 101] ∨ t.toList = [116, 104, 101, 110] := by
 unfold inL tElse tThen at h
 simp only [List.any_cons, List.any_nil, ba_list, Bool.or_false, Bool.or_eq_true, beq_iff_eq] at h
 rcases h with h | h <;> simp [← h]
theorem end_then {t : ByteArray} (h : inL t [tThen] = true) : t.toList = [116, 104, 101, 110] := by
 unfold inL tThen at h
 simp only [List.any_cons, List.any_nil, ba_list, Bool.or_false, Bool.or_eq_true, beq_iff_eq] at h
 exact h.symm
theorem end_loop {t : ByteArray} (h : inL t [tLoop] = true) : t.toList = [108, 111, 111, 112] := by
 unfold inL tLoop at h
 simp only [List.any_cons, List.any_nil, ba_list, Bool.or_false, Bool.or_eq_true, beq_iff_eq] at h
 exact h.symm
theorem end_semi {t : ByteArray} (h : inL t [tSemi] = true) : t.toList = [59] := by
 unfold inL tSemi at h
 simp only [List.any_cons, List.any_nil, ba_list, Bool.or_false, Bool.or_eq_true, beq_iff_eq] at h
 exact h.symm
theorem step_stray (es : List PE) (nt tk : Int) (dc : List Int) {b : PB} (r : List PB) (kn : Inf) {t : ByteArray} (hb : Opn b) (h : inL t stray = true) (hn : inL t (endsOf b.opener) = false) : (stepP es nt tk dc (b :: r) kn t).1 = 5 := by
 rcases stray_cases h with e | e | e | e | e | e | e
 ·simp [stepP, e]
 ·have : b.opener ≠ 29 := by rintro h1; rw [h1] at hn; simp [endsOf, inL, tElse, ba_list, e] at hn
  simp [stepP, e, this]
 ·have : ¬ (b.opener = 29 ∨ b.opener = 30) := by
   rintro (h1 | h1) <;> rw [h1] at hn <;> simp [endsOf, inL, tElse, tThen, ba_list, e] at hn
  simp [stepP, e, this]
 ·have : b.opener ≠ 31 := by rintro h1; rw [h1] at hn; simp [endsOf, inL, tLoop, ba_list, e] at hn
  simp [stepP, e, this]
 ·have : b.opener ≠ 34 := by rintro h1; rw [h1] at hn; simp [endsOf, inL, tSemi, ba_list, e] at hn
  simp [stepP, e, this]
 ·simp [stepP, e]
 ·simp [stepP, e]
theorem if_num {t : ByteArray} (h : t.toList = [105, 102] ∨ t.toList = [100, 111]) : (numS t).2 = false := by
 rcases h with h | h
 ·have : t = ⟨#[105, 102]⟩ := (ext_list t [105, 102]).1 (by simp [h])
  subst this; decide +kernel
 ·have : t = ⟨#[100, 111]⟩ := (ext_list t [100, 111]).1 (by simp [h])
  subst this; decide +kernel
theorem step_num (es : List PE) (nt tk : Int) (dc : List Int) (b : PB) (r : List PB) (kn : Inf) {t : ByteArray} (h : inL t stray = false) (hn : (numS t).2 = true) :
  stepP es nt tk dc (b :: r) kn t = (0, dc ++ [28, (numS t).1], { b.add (opInf 28) with numbers := min (b.numbers + 1) 2, a0 := b.a1, a1 := (numS t).1 } :: r, kn) := by
 obtain ⟨h1, h2, h3, h4, h5, h6, h7⟩ := stray_not h
 have n1 : t.toList ≠ [105, 102] := fun e => by rw [if_num (Or.inl e)] at hn; cases hn
 have n2 : t.toList ≠ [100, 111] := fun e => by rw [if_num (Or.inr e)] at hn; cases hn
 obtain ⟨q1, q2⟩ := num_eq t
 rw [hn] at q1
 rw [← q2 q1]
 simp [stepP, h1, h2, h3, h4, h5, h6, h7, n1, n2, q1]
theorem step_word (es : List PE) (nt tk : Int) (dc : List Int) (b : PB) (r : List PB) (kn : Inf) {t : ByteArray} (h : inL t stray = false) (hn : ¬ (numS t).2 = true) (n1 : ¬ (t.toList == [105, 102]) = true) (n2 : ¬ (t.toList == [100, 111]) = true) :
  stepP es nt tk dc (b :: r) kn t = stepW es dc b r kn t := by
 obtain ⟨h1, h2, h3, h4, h5, h6, h7⟩ := stray_not h
 obtain ⟨q1, q2⟩ := num_eq t
 have hn' : (numP t).2 = false := by rw [q1]; simpa using hn
 simp only [beq_iff_eq] at n1 n2
 simp [stepP, h1, h2, h3, h4, h5, h6, h7, n1, n2, hn']
theorem word_eq {es : List PE} {ws : List RW} (hA : Alike es ws) (dc : List Int) {b : PB} (r : List PB) (kn : Inf) (t : ByteArray) {loops : Int} (hl : 0 ≤ loops) (hb : b.inDo = decide (0 < loops)) :
  (wordE ws t loops = 0 ∧ (wordI ws t).Nn ∧ ∃ dc', stepW es dc b r kn t = (0, dc', b.add (wordI ws t) :: r, kn) ∧ dc.length ≤ dc'.length ∧ (∀ i, i < dc.length → dc'[i]? = dc[i]?) ∧ CItem es dc' (decide (0 < loops)) (wordT ws t) dc.length dc'.length) ∨ (wordE ws t loops ≠ 0 ∧ (stepW es dc b r kn t).1 = wordE ws t loops) := by
 unfold stepW wordE wordI
 rw [last_findW hA.names t]
 by_cases hf : 0 ≤ findW ws t
 ·left
  have hlt : findW ws t < ws.length := (lastK_lt (nameAt ws) t ws.length).1
  have hk : (findW ws t).toNat < ws.length := by omega
  have hy : ws[(findW ws t).toNat]? = some ws[(findW ws t).toNat] := List.getElem?_eq_getElem hk
  have hk' : (findW ws t).toNat < es.length := by rw [hA.len]; exact hk
  have hx : es[(findW ws t).toNat]? = some es[(findW ws t).toNat] := List.getElem?_eq_getElem hk'
  have hu := hA.use _ _ _ hx hy
  rw [if_pos hf, if_pos hf, if_pos hf, hy]
  have hg : es.getD (findW ws t).toNat PE.zero = es[(findW ws t).toNat] := by simp [hk']
  simp only [hg]
  have hx' := hx
  generalize es[(findW ws t).toNat] = x at hu hx'
  generalize ws[(findW ws t).toNat] = y at hu
  have key : x.use = ownInf y ∧ (ownInf y).Nn := by
   unfold PE.use ownInf
   cases hv : x.var with
   | true =>
    have := (hu.1 hv).2
    rw [if_pos rfl, if_pos this, op_some.1]
    exact ⟨rfl, Inf.Nn.plain (by omega) (by omega)⟩
   | false =>
    obtain ⟨u1, u2, u3, _⟩ := hu.2 hv
    rw [if_neg (by simp), if_neg (by omega), u2, op_none.2.2.1]
    exact ⟨one_then u3, u3.more⟩
  refine ⟨by trivial, key.2, _, by rw [key.1], by simp, fun i hi => List.getElem?_append_left hi, ?_⟩
  unfold wordT PE.op
  rw [if_pos hf]
  have g1 : ∀ o : Int, (dc ++ [o, x.place])[dc.length]? = some o := fun o => by simp
  have g2 : ∀ o : Int, (dc ++ [o, x.place])[dc.length + 1]? = some x.place := fun o => by rw [List.getElem?_append_right (by omega)]; simp
  rw [show (dc ++ [if x.var = true then 28 else 33, x.place]).length = dc.length + 2 by simp]
  cases hv : x.var with
  | true => exact .var _ _ x _ hx' hv (g1 _) (g2 _)
  | false => exact .own _ _ x _ hx' hv (g1 _) (g2 _)
 ·rw [if_neg hf, if_neg hf, if_neg hf]
  cases ho : opFind t with
  | none =>
   right
   rw [there_none ho]
   exact ⟨by simp, by simp⟩
  | some k =>
   obtain ⟨e1, e2, e3⟩ := there_some ho
   have e4 := there_inf ho
   have hb2 := thereS_bd t
   simp only
   by_cases h5 : k = 27 ∧ b.inDo = false
   ·right
    have hl0 : loops = 0 := by
     have := h5.2; rw [hb] at this; simp at this; omega
    have hi : (t.toList == [105]) = true := by simpa using e3.2 h5.1
    rw [e1]
    simp only [Bool.true_eq_false, if_false]
    rw [if_pos ⟨hi, hl0⟩, if_pos h5]
    exact ⟨by decide, rfl⟩
   ·left
    have hno : ¬ ((t.toList == [105]) = true ∧ loops = 0) := by
     rintro ⟨h1, h2⟩
     exact h5 ⟨e3.1 (by simpa using h1), by rw [hb, h2]; rfl⟩
    rw [if_neg h5]
    have h22 : (thereS t).2.2 = true := by rw [e1]
    rw [h22]
    simp only [Bool.true_eq_false, if_false]
    rw [if_neg hno]
    refine ⟨rfl, Inf.Nn.plain hb2.1 hb2.2.2.1, _, by rw [e4], by simp, fun i hi => List.getElem?_append_left hi, ?_⟩
    unfold wordT
    rw [if_neg hf, show (dc ++ [(k : Int)]).length = dc.length + 1 by simp]
    refine .op _ t k _ ho (by simp) (fun hk => ?_)
    rw [← hb]
    cases hd : b.inDo with
    | true => rfl
    | false => exact absurd ⟨hk, hd⟩ h5
def Outc (es : List PE) (nt : Int) (s : ByteArray) (toks : List Tk) (ends : List ByteArray) (loops : Int) (I g : Nat) (tk : Int) (dc : List Int) (b : PB) (r : List PB) (kn : Inf) (a : Nat) (acc : List AI) : PR → Prop
 | .inr E => defP es nt s g tk dc (b :: r) kn a = .inr E
 | .inl (l, t, I') => I < I' ∧ I' ≤ toks.length ∧ inL t ends = true ∧ t = tokS toks (I' - 1) ∧ ∃ g' dc' b' a', defP es nt s g tk dc (b :: r) kn a = defP es nt s g' (tk + ((I' - 1 - I : Nat) : Int)) dc' (b' :: r) kn a' ∧ toks.length - (I' - 1) + 2 ≤ g' ∧ At s toks (I' - 1) a' ∧ Same b b' ∧ BR b' l loops ∧ ∀ p, CO es dc p loops acc → CO es dc' p loops l ∧ ∀ i, i < p → dc'[i]? = dc[i]?
theorem Outc.step {es : List PE} {nt : Int} {s : ByteArray} {toks : List Tk} {ends : List ByteArray} {loops : Int} {I J g g1 : Nat} {tk tk1 : Int} {dc dc1 : List Int} {b b1 : PB} {r : List PB} {kn : Inf} {a a1 : Nat} {acc acc1 : List AI} {R : PR}
  (h : Outc es nt s toks ends loops J g1 tk1 dc1 b1 r kn a1 acc1 R) (h1 : defP es nt s g tk dc (b :: r) kn a = defP es nt s g1 tk1 dc1 (b1 :: r) kn a1) (hIJ : I < J) (htk : tk1 = tk + ((J - I : Nat) : Int)) (hs : Same b b1) (hco : ∀ p, CO es dc p loops acc → CO es dc1 p loops acc1 ∧ ∀ i, i < p → dc1[i]? = dc[i]?) :
  Outc es nt s toks ends loops I g tk dc b r kn a acc R := by
 match R, h with
 | .inr E, h => exact h1.trans h
 | .inl (l, t, I'), h =>
  obtain ⟨c1, c2, c3, c4, g', dc', b', a', c5, c6, c7, c8, c9, c10⟩ := h
  refine ⟨by omega, c2, c3, c4, g', dc', b', a', ?_, c6, c7, hs.trans c8, c9, fun p hp => ?_⟩
  rotate_left
  ·obtain ⟨q1, q2⟩ := hco p hp
   obtain ⟨q3, q4⟩ := c10 p q1
   exact ⟨q3, fun i hi => (q4 i hi).trans (q2 i hi)⟩
  rw [h1, c5, htk]
  congr 1
  omega
theorem CO.nil' (es : List PE) {dc : List Int} (p : Nat) (loops : Int) (h : p = dc.length) : CO es dc p loops [] := by subst h; exact CO.nil es dc loops
theorem set_len (l : List Int) (i : Nat) (x : Int) : (l.set i x).length = l.length := by simp
theorem co_then {es : List PE} {dc dc1 : List Int} {p : Nat} {loops : Int} {acc la : List AI} {hole : Int} {i : Inf} (hp : CO es dc p loops acc) (hh : hole = (PB.opened { PB.zero with opener := 29 } PB.zero (dc.length + 2)).hole)
  (h1 : CO es dc1 (dc.length + 2) loops la ∧ ∀ i, i < dc.length + 2 → dc1[i]? = (dc ++ [29, 0])[i]?) : CO es (dc1.set hole.toNat dc1.length) p loops (acc ++ [⟨none, i, .iff (trees la)⟩]) ∧ ∀ i, i < p → (dc1.set hole.toNat dc1.length)[i]? = dc[i]? := by
 obtain ⟨⟨h2, h3⟩, h4⟩ := h1
 have hho : hole.toNat = dc.length + 1 := by rw [hh]; simp [PB.opened]; omega
 rw [hho]
 have e1 : ∀ i, i ≠ dc.length + 1 → (dc1.set (dc.length + 1) dc1.length)[i]? = dc1[i]? := fun i hi => by rw [List.getElem?_set_ne (by omega)]
 have e2 : ∀ i, i < dc.length → (dc1.set (dc.length + 1) dc1.length)[i]? = dc[i]? := fun i hi => by
  rw [e1 i (by omega), h4 i (by omega), List.getElem?_append_left hi]
 refine hp.snoc (by rw [set_len]; omega) e2 ?_
 rw [set_len]
 obtain ⟨ps, q1, q2, q3⟩ := h3.stable h2 (es' := es) (code' := dc1.set (dc.length + 1) dc1.length) (fun _ _ => id) (fun i hi _ => e1 i (by omega))
 refine .iff _ _ _ _ ps ?_ ?_ q1 q2 q3
 ·rw [e1 _ (by omega), h4 _ (by omega)]; simp
 ·rw [List.getElem?_set_self (by omega)]
theorem co_else {es : List PE} {dc dc1 dc2 : List Int} {p : Nat} {loops : Int} {acc la lb : List AI} {hole hole2 : Int} {i : Inf} {o : Inf} {z : PB} (hp : CO es dc p loops acc) (hh : hole = (PB.opened { PB.zero with opener := 29 } z (dc.length + 2)).hole)
  (hh2 : hole2 = (PB.opened { PB.zero with opener := 30, other := o } z (dc1.length + 2)).hole)
  (h1 : CO es dc1 (dc.length + 2) loops la ∧ ∀ i, i < dc.length + 2 → dc1[i]? = (dc ++ [29, 0])[i]?)
  (k1 : CO es dc2 (dc1.length + 2) loops lb ∧ ∀ i, i < dc1.length + 2 → dc2[i]? = ((dc1 ++ [30, 0]).set hole.toNat (dc1.length + 2))[i]?) :
  CO es (dc2.set hole2.toNat dc2.length) p loops (acc ++ [⟨none, i, .els (trees la) (trees lb)⟩]) ∧ ∀ i, i < p → (dc2.set hole2.toNat dc2.length)[i]? = dc[i]? := by
 obtain ⟨⟨h2, h3⟩, h4⟩ := h1
 obtain ⟨⟨k2, k3⟩, k4⟩ := k1
 have hho : hole.toNat = dc.length + 1 := by rw [hh]; simp [PB.opened]; omega
 have hho2 : hole2.toNat = dc1.length + 1 := by rw [hh2]; simp [PB.opened]; omega
 rw [hho2]
 rw [hho] at k4
 have e1 : ∀ i, i ≠ dc1.length + 1 → (dc2.set (dc1.length + 1) dc2.length)[i]? = dc2[i]? := fun i hi => by rw [List.getElem?_set_ne (by omega)]
 have e3 : ∀ i, i < dc1.length → i ≠ dc.length + 1 → (dc2.set (dc1.length + 1) dc2.length)[i]? = dc1[i]? := fun i hi hn => by
  rw [e1 i (by omega), k4 i (by omega), List.getElem?_set_ne (by omega), List.getElem?_append_left hi]
 have e2 : ∀ i, i < dc.length → (dc2.set (dc1.length + 1) dc2.length)[i]? = dc[i]? := fun i hi => by
  rw [e3 i (by omega) (by omega), h4 i (by omega), List.getElem?_append_left hi]
 refine hp.snoc (by rw [set_len]; omega) e2 ?_
 rw [set_len]
 obtain ⟨ps, q1, q2, q3⟩ := h3.stable h2 (es' := es) (code' := dc2.set (dc1.length + 1) dc2.length) (fun _ _ => id) (fun i hi hi2 => e3 i hi2 (by omega))
 obtain ⟨qs, r1, r2, r3⟩ := k3.stable k2 (es' := es) (code' := dc2.set (dc1.length + 1) dc2.length) (fun _ _ => id) (fun i hi _ => e1 i (by omega))
 refine .els _ _ _ _ dc1.length _ ps qs ?_ ?_ q1 q2 q3 ?_ ?_ r1 r2 r3
 ·rw [e3 _ (by omega) (by omega), h4 _ (by omega)]; simp
 ·rw [e1 _ (by omega), k4 _ (by omega), List.getElem?_set_self (by simp; omega)]; simp
 ·rw [e1 _ (by omega), k4 _ (by omega), List.getElem?_set_ne (by omega)]; simp
 ·rw [List.getElem?_set_self (by omega)]
theorem co_loop {es : List PE} {dc dc1 : List Int} {p : Nat} {loops : Int} {acc la : List AI} {hole : Int} {i : Inf} {tm : Int} {z : PB} (hp : CO es dc p loops acc) (hl : 0 ≤ loops) (hh : hole = (PB.opened { PB.zero with opener := 31, times := tm } z (dc.length + 2)).hole)
  (h1 : CO es dc1 (dc.length + 2) (loops + 1) la ∧ ∀ i, i < dc.length + 2 → dc1[i]? = (dc ++ [31, 0])[i]?) : CO es ((dc1 ++ [32, (hole.toNat : Int) + 1]).set hole.toNat (dc1.length + 2)) p loops (acc ++ [⟨none, i, .doo (trees la)⟩]) ∧ ∀ i, i < p → ((dc1 ++ [32, (hole.toNat : Int) + 1]).set hole.toNat (dc1.length + 2))[i]? = dc[i]? := by
 obtain ⟨⟨h2, h3⟩, h4⟩ := h1
 have hho : hole.toNat = dc.length + 1 := by rw [hh]; simp [PB.opened]; omega
 rw [hho]
 obtain ⟨c, hc⟩ : ∃ c, c = (dc1 ++ [32, ((dc.length + 1 : Nat) : Int) + 1]).set (dc.length + 1) (dc1.length + 2) := ⟨_, rfl⟩
 rw [← hc]
 have hcl : c.length = dc1.length + 2 := by rw [hc]; simp
 have e1 : ∀ i, i < dc1.length → i ≠ dc.length + 1 → c[i]? = dc1[i]? := fun i hi hn => by rw [hc, List.getElem?_set_ne (by omega), List.getElem?_append_left hi]
 have e2 : ∀ i, i < dc.length → c[i]? = dc[i]? := fun i hi => by
  rw [e1 i (by omega) (by omega), h4 i (by omega), List.getElem?_append_left hi]
 refine hp.snoc (by omega) e2 ?_
 rw [hcl]
 rw [show decide (0 < loops + 1) = true by simp; omega] at h3
 obtain ⟨ps, q1, q2, q3⟩ := h3.stable h2 (es' := es) (code' := c) (fun _ _ => id) (fun i hi hi2 => e1 i hi2 (by omega))
 refine .doo _ _ _ dc1.length ps ?_ ?_ q1 q2 q3 ?_ ?_
 ·rw [e1 _ (by omega) (by omega), h4 _ (by omega)]; simp
 ·rw [hc, List.getElem?_set_self (by simp; omega)]; simp
 ·rw [hc, List.getElem?_set_ne (by omega)]; simp
 ·rw [hc, List.getElem?_set_ne (by omega), List.getElem?_append_right (by omega)]
  simp
  omega
set_option maxHeartbeats 1000000 in
theorem def_items {es : List PE} {ws : List RW} (hA : Alike es ws) (nt : Int) (s : ByteArray) (toks : List Tk) : ∀ (f : Nat) (ends : List ByteArray) (loops : Int) (acc : List AI) (I g : Nat) (tk : Int) (dc : List Int) (b : PB) (r : List PB) (kn : Inf) (a : Nat),
  toks.length + 1 - I ≤ f → I ≤ toks.length → toks.length - I + 2 ≤ g → At s toks I a → BR b acc loops → 0 ≤ loops → Opn b → ends = endsOf b.opener →
  Outc es nt s toks ends loops I g tk dc b r kn a acc (pItems ws toks s.size f ends loops acc I) := by
 intro f
 induction f with
 | zero => intro ends loops acc I g tk dc b r kn a h1 h2; omega
 | succ f ih =>
  intro ends loops acc I g tk dc b r kn a hf hI hg hat hbr hl hop hends
  obtain ⟨g, rfl⟩ : ∃ g0, g = g0 + 1 := ⟨g - 1, by omega⟩
  obtain ⟨n1, n2, n3⟩ := hat.next hI
  have bad : ∀ {E : Int} {tk' : Int} {dc' : List Int} {b' : PB} {r' : List PB} {kn' : Inf} {g' : Nat}, (stepP es nt (tk' + 1) dc' (b' :: r') kn' (tokS toks I)).1 = E → E ≠ 0 → defP es nt s (g' + 1) tk' dc' (b' :: r') kn' a = .inr (E, plc toks s.size I) := by
   intro E tk' dc' b' r' kn' g' h hE
   rw [← n1] at h
   rw [defP_err1 h hE, n2]
  have hnone := hop.none
  rw [pItems]
  split
  ·rename_i hin
   have hlt : I < toks.length := tok_end toks I ends (by rw [hends]; exact hnone) hin
   exact ⟨by omega, by omega, hin, by simp, g + 1, dc, b, a, by simp, by simpa using hg, by simpa using hat, Same.refl b, hbr, fun p hp => ⟨hp, fun _ _ => rfl⟩⟩
  ·rename_i hin
   have hin' : inL (tokS toks I) (endsOf b.opener) = false := by rw [← hends]; simpa using hin
   split
   ·rename_i hst
    exact bad (step_stray es nt (tk + 1) dc r kn hop hst hin') (by decide)
   ·rename_i hst
    have hst' : inL (tokS toks I) stray = false := by simpa using hst
    have hne := (stray_not hst').1
    obtain ⟨hlt, hat1⟩ := n3.resolve_left hne
    split
    ·rename_i hnum
     have hs := step_num es nt (tk + 1) dc b r kn hst' hnum
     rw [← n1] at hs
     refine (ih ends loops _ (I + 1) g (tk + 1) _ { b.add (opInf 28) with numbers := min (b.numbers + 1) 2, a0 := b.a1, a1 := (numS (nx s a).1).1 } r kn _ (by omega) (by omega) (by omega) hat1 ?_ hl hop hends).step (defP_ok1 hs) (by omega) (by omega) ⟨rfl, rfl, rfl, rfl, rfl⟩ (fun p hp => hp.snoc (by simp) (fun i hi => List.getElem?_append_left hi) (by
      rw [n1, show (dc ++ [28, (numS (tokS toks I)).1]).length = dc.length + 2 by simp]
      exact .num _ _ _ (num_bd _ hnum) (by simp) (by rw [List.getElem?_append_right (by omega)]; simp)))
     refine ⟨?_, ?_, hbr.ido, ?_⟩
     ·rw [infL_snoc]; simp [PB.add, hbr.does, op_some.1]
     ·rw [infL_snoc]; exact hbr.nn.then (Inf.Nn.plain (by omega) (by omega))
     ·rw [n1]; exact hbr.num.some rfl rfl rfl
    ·rename_i hnum
     split
     ·rename_i hif
      have hif' : (nx s a).1.toList = [105, 102] := by rw [n1]; simpa using hif
      have hs : stepP es nt (tk + 1) dc (b :: r) kn (nx s a).1 = (0, dc ++ [29, 0], PB.opened { PB.zero with opener := 29 } (b.add (opInf 29)) (dc.length + 2) :: b.add (opInf 29) :: r, kn) := by simp [stepP, hif']
      have hd := defP_ok1 (es := es) (nt := nt) (g := g) hs
      have hB : BR (PB.opened { PB.zero with opener := 29 } (b.add (opInf 29)) (dc.length + 2)) [] loops := ⟨rfl, Inf.Nn.zero, by simp [PB.opened, PB.add, hbr.ido], rfl⟩
      have iA := ih [tElse, tThen] loops [] (I + 1) g (tk + 1) (dc ++ [29, 0]) _ (b.add (opInf 29) :: r) kn _ (by omega) (by omega) (by omega) hat1 hB hl (Or.inl rfl) rfl
      generalize pItems ws toks s.size f [tElse, tThen] loops [] (I + 1) = RA at iA
      match RA, iA with
      | .inr E, iA => exact hd.trans iA
      | .inl (la, ta, I1), iA =>
       obtain ⟨a1, a2, a3, a4, g1, dc1, b1, p1, a5, a6, a7, a8, a9, a10⟩ := iA
       obtain ⟨g1, rfl⟩ : ∃ g0, g1 = g0 + 1 := ⟨g1 - 1, by omega⟩
       obtain ⟨m1, m2, m3⟩ := a7.next (by omega)
       rw [← a4] at m1
       simp only
       have hta : ta.toList = [101, 108, 115, 101] ∨ ta.toList = [116, 104, 101, 110] := by
        exact end_two a3
       have hI1 : I1 - 1 + 1 = I1 := by omega
       have m4 : At s toks I1 (nx s p1).2.2 := by
        rcases m3 with m3 | ⟨_, m3⟩
        ·rw [← a4] at m3; rcases hta with h | h <;> rw [h] at m3 <;> cases m3
        ·rw [hI1] at m3; exact m3
       have hop1 : b1.opener = 29 := a8.op
       split
       ·rename_i hel
        have hel' : (nx s p1).1.toList = [101, 108, 115, 101] := by rw [m1]; simpa using hel
        have hs1 : stepP es nt (tk + 1 + ((I1 - 1 - (I + 1) : Nat) : Int) + 1) dc1 (b1 :: b.add (opInf 29) :: r) kn (nx s p1).1 = (0, (dc1 ++ [30, 0]).set b1.hole.toNat (dc1.length + 2), PB.opened { PB.zero with opener := 30, other := b1.does.then (opInf 30) } (b.add (opInf 29)) (dc1.length + 2) :: b.add (opInf 29) :: r, kn) := by
         simp [stepP, hel', hop1]
        have hd1 := defP_ok1 (es := es) (nt := nt) (g := g1) hs1
        have hB2 : BR (PB.opened { PB.zero with opener := 30, other := b1.does.then (opInf 30) } (b.add (opInf 29)) (dc1.length + 2)) [] loops := ⟨rfl, Inf.Nn.zero, by simp [PB.opened, PB.add, hbr.ido], rfl⟩
        have iB := ih [tThen] loops [] I1 g1 (tk + 1 + ((I1 - 1 - (I + 1) : Nat) : Int) + 1) ((dc1 ++ [30, 0]).set b1.hole.toNat (dc1.length + 2)) _ (b.add (opInf 29) :: r) kn _ (by omega) a2 (by omega) m4 hB2 hl (Or.inr (Or.inl rfl)) rfl
        generalize pItems ws toks s.size f [tThen] loops [] I1 = RB at iB
        match RB, iB with
        | .inr E, iB => exact hd.trans (a5.trans (hd1.trans iB))
        | .inl (lb, tb, I2), iB =>
         obtain ⟨b1', b2', b3, b4, g2, dc2, b2, p2, b5, b6, b7, b8, b9, b10⟩ := iB
         obtain ⟨g2, rfl⟩ : ∃ g0, g2 = g0 + 1 := ⟨g2 - 1, by omega⟩
         obtain ⟨q1, q2, q3⟩ := b7.next (by omega)
         rw [← b4] at q1
         simp only
         have htb : tb.toList = [116, 104, 101, 110] := by
          exact end_then b3
         have hI2 : I2 - 1 + 1 = I2 := by omega
         have q4 : At s toks I2 (nx s p2).2.2 := by
          rcases q3 with q3 | ⟨_, q3⟩
          ·rw [← b4, htb] at q3; cases q3
          ·rw [hI2] at q3; exact q3
         have hop2 : b2.opener = 30 := b8.op
         have hoth : b2.other = (infL la).more := by rw [b8.other, a9.does.symm]; show b1.does.then (opInf 30) = _; rw [op_none.1, then_one (by rw [a9.does]; exact a9.nn)]
         have hdoes : b2.does = infL lb := b9.does
         have htb' : (nx s p2).1.toList = [116, 104, 101, 110] := by rw [q1]; exact htb
         split
         ·rename_i hnet
          have hnn : b2.does.net = b2.other.net := by rw [hoth, hdoes]; exact hnet.symm
          have hs2 : stepP es nt (tk + 1 + ((I1 - 1 - (I + 1) : Nat) : Int) + 1 + ((I2 - 1 - I1 : Nat) : Int) + 1) dc2 (b2 :: b.add (opInf 29) :: r) kn (nx s p2).1 = (0, dc2.set b2.hole.toNat dc2.length, (b.add (opInf 29)).add (b2.does.orP b2.other) :: r, kn) := by
           simp [stepP, htb', hop2, hnn]
          have hd2 := defP_ok1 (es := es) (nt := nt) (g := g2) hs2
          refine (ih ends loops _ I2 g2 (tk + 1 + ((I1 - 1 - (I + 1) : Nat) : Int) + 1 + ((I2 - 1 - I1 : Nat) : Int) + 1) _ ((b.add (opInf 29)).add (b2.does.orP b2.other)) r kn _ (by omega) b2' (by omega) q4 ?_ hl hop hends).step (hd.trans (a5.trans (hd1.trans (b5.trans hd2)))) (by omega) (by omega) ⟨rfl, rfl, rfl, rfl, rfl⟩ (fun p hp => co_else hp a8.hole b8.hole (a10 _ (CO.nil' es _ loops (by simp))) (b10 _ (CO.nil' es _ loops (by simp))))
          have hw : ((infL la).more.ways (infL lb)).Nn := a9.nn.more.ways b9.nn hnet
          refine ⟨?_, ?_, hbr.ido, NumR.none rfl⟩
          ·rw [infL_snoc]
           show (b.does.then (opInf 29)).then (b2.does.orP b2.other) = _
           rw [hbr.does, hoth, hdoes]
           exact if_eq hbr.nn b9.nn a9.nn.more hnet.symm
          ·rw [infL_snoc]; exact hbr.nn.then ((Inf.Nn.plain (by omega) (by omega)).then hw)
         ·rename_i hnet
          have hnn : ¬ b2.does.net = b2.other.net := by rw [hoth, hdoes]; exact fun e => hnet e.symm
          refine hd.trans (a5.trans (hd1.trans (b5.trans ?_)))
          rw [defP_err1 (E := 6) (by simp [stepP, htb', hop2, hnn]) (by decide), q2]
       ·rename_i hel
        have hth : ta.toList = [116, 104, 101, 110] := hta.resolve_left (by simpa using hel)
        have hth' : (nx s p1).1.toList = [116, 104, 101, 110] := by rw [m1]; exact hth
        have hoth : b1.other = Inf.zero := a8.other
        have hdoes : b1.does = infL la := a9.does
        split
        ·rename_i hnet
         have hnn : b1.does.net = b1.other.net := by rw [hoth, hdoes]; exact hnet
         have hs1 : stepP es nt (tk + 1 + ((I1 - 1 - (I + 1) : Nat) : Int) + 1) dc1 (b1 :: b.add (opInf 29) :: r) kn (nx s p1).1 = (0, dc1.set b1.hole.toNat dc1.length, (b.add (opInf 29)).add (b1.does.orP b1.other) :: r, kn) := by
          simp [stepP, hth', hop1, hnn]
         have hd1 := defP_ok1 (es := es) (nt := nt) (g := g1) hs1
         refine (ih ends loops _ I1 g1 (tk + 1 + ((I1 - 1 - (I + 1) : Nat) : Int) + 1) _ ((b.add (opInf 29)).add (b1.does.orP b1.other)) r kn _ (by omega) a2 (by omega) m4 ?_ hl hop hends).step (hd.trans (a5.trans hd1)) (by omega) (by omega) ⟨rfl, rfl, rfl, rfl, rfl⟩ (fun p hp => co_then hp a8.hole (a10 _ (CO.nil' es _ loops (by simp))))
         have hw : ((infL la).ways Inf.zero).Nn := a9.nn.ways Inf.Nn.zero hnet
         have hsym : (infL la).ways Inf.zero = Inf.zero.ways (infL la) := by
          refine Inf.ext' ?_ ?_ ?_ ?_ ?_ <;> simp only [Inf.ways]
          ·omega
          ·exact hnet
          ·omega
          ·omega
         refine ⟨?_, ?_, hbr.ido, NumR.none rfl⟩
         ·rw [infL_snoc]
          show (b.does.then (opInf 29)).then (b1.does.orP b1.other) = _
          rw [hbr.does, hoth, hdoes, hsym]
          exact if_eq hbr.nn a9.nn Inf.Nn.zero hnet
         ·rw [infL_snoc]; exact hbr.nn.then ((Inf.Nn.plain (by omega) (by omega)).then hw)
        ·rename_i hnet
         have hnn : ¬ b1.does.net = b1.other.net := by rw [hoth, hdoes]; exact hnet
         refine hd.trans (a5.trans ?_)
         rw [defP_err1 (E := 6) (by simp [stepP, hth', hop1, hnn]) (by decide), m2]
     ·rename_i hif
      split
      ·rename_i hdo
       have hdo' : (nx s a).1.toList = [100, 111] := by rw [n1]; simpa using hdo
       rcases hbr.num.two with ⟨t1, t2⟩ | ⟨t1, t2⟩
       ·rw [t2]
        simp only
        exact bad (by rw [n1] at hdo'; simp [stepP, hdo', t1]) (by decide)
       ·rw [t2]
        simp only
        have hnl : ¬ b.numbers < 2 := by omega
        split
        ·rename_i hbig
         have h1 : 1000 < max 0 (b.a0 - b.a1) := by omega
         exact bad (E := 7) (by
          rw [n1] at hdo'
          simp only [stepP]
          rw [if_neg (by simp [hdo']), if_neg (by simp [hdo']), if_neg (by simp [hdo']), if_neg (by simp [hdo']), if_neg (by simp [hdo']), if_neg (by simp [hdo']), if_neg (by simp [hdo']), if_pos (by simp [hdo']), if_neg hnl, if_pos h1]) (by decide)
        ·rename_i hbig
         have h1 : ¬ 1000 < max 0 (b.a0 - b.a1) := by omega
         have hs : stepP es nt (tk + 1) dc (b :: r) kn (nx s a).1 = (0, dc ++ [31, 0], PB.opened { PB.zero with opener := 31, times := max 0 (b.a0 - b.a1) } (b.add (opInf 31)) (dc.length + 2) :: b.add (opInf 31) :: r, kn) := by
          simp only [stepP]
          rw [if_neg (by simp [hdo']), if_neg (by simp [hdo']), if_neg (by simp [hdo']), if_neg (by simp [hdo']), if_neg (by simp [hdo']), if_neg (by simp [hdo']), if_neg (by simp [hdo']), if_pos (by simp [hdo']), if_neg hnl, if_neg h1]
         have hd := defP_ok1 (es := es) (nt := nt) (g := g) hs
         have hB : BR (PB.opened { PB.zero with opener := 31, times := max 0 (b.a0 - b.a1) } (b.add (opInf 31)) (dc.length + 2)) [] (loops + 1) := ⟨rfl, Inf.Nn.zero, by simp [PB.opened]; omega, rfl⟩
         have iA := ih [tLoop] (loops + 1) [] (I + 1) g (tk + 1) (dc ++ [31, 0]) _ (b.add (opInf 31) :: r) kn _ (by omega) (by omega) (by omega) hat1 hB (by omega) (Or.inr (Or.inr (Or.inl rfl))) rfl
         generalize pItems ws toks s.size f [tLoop] (loops + 1) [] (I + 1) = RA at iA
         match RA, iA with
         | .inr E, iA => exact hd.trans iA
         | .inl (la, ta, I1), iA =>
          obtain ⟨a1, a2, a3, a4, g1, dc1, b1, p1, a5, a6, a7, a8, a9, a10⟩ := iA
          obtain ⟨g1, rfl⟩ : ∃ g0, g1 = g0 + 1 := ⟨g1 - 1, by omega⟩
          obtain ⟨m1, m2, m3⟩ := a7.next (by omega)
          rw [← a4] at m1
          simp only
          have hta : ta.toList = [108, 111, 111, 112] := by
           exact end_loop a3
          have hta' : (nx s p1).1.toList = [108, 111, 111, 112] := by rw [m1]; exact hta
          have hI1 : I1 - 1 + 1 = I1 := by omega
          have m4 : At s toks I1 (nx s p1).2.2 := by
           rcases m3 with m3 | ⟨_, m3⟩
           ·rw [← a4, hta] at m3; cases m3
           ·rw [hI1] at m3; exact m3
          have hop1 : b1.opener = 31 := a8.op
          have htm : b1.times = max 0 (b.a0 - b.a1) := a8.times
          have hdoes : b1.does = infL la := a9.does
          split
          ·rename_i hnet
           have hnn : b1.does.net = 0 := by rw [hdoes]; exact hnet
           have hs1 : stepP es nt (tk + 1 + ((I1 - 1 - (I + 1) : Nat) : Int) + 1) dc1 (b1 :: b.add (opInf 31) :: r) kn (nx s p1).1 = (0, (dc1 ++ [32, (b1.hole.toNat : Int) + 1]).set b1.hole.toNat (dc1.length + 2), (b.add (opInf 31)).add ((b1.does.then (opInf 32)).timesP b1.times) :: r, kn) := by
            simp [stepP, hta', hop1, hnn]
           have hd1 := defP_ok1 (es := es) (nt := nt) (g := g1) hs1
           refine (ih ends loops _ I1 g1 (tk + 1 + ((I1 - 1 - (I + 1) : Nat) : Int) + 1) _ ((b.add (opInf 31)).add ((b1.does.then (opInf 32)).timesP b1.times)) r kn _ (by omega) a2 (by omega) m4 ?_ hl hop hends).step (hd.trans (a5.trans hd1)) (by omega) (by omega) ⟨rfl, rfl, rfl, rfl, rfl⟩ (fun p hp => co_loop hp hl a8.hole (a10 _ (CO.nil' es _ (loops + 1) (by simp))))
           refine ⟨?_, ?_, hbr.ido, NumR.none rfl⟩
           ·rw [infL_snoc]
            show (b.does.then (opInf 31)).then ((b1.does.then (opInf 32)).timesP b1.times) = _
            rw [hbr.does, hdoes, htm]
            exact do_eq hbr.nn a9.nn (by omega)
           ·rw [infL_snoc]; exact hbr.nn.then ((Inf.Nn.plain (by omega) (by omega)).then (a9.nn.times (by omega)))
          ·rename_i hnet
           have hnn : ¬ b1.does.net = 0 := by rw [hdoes]; exact hnet
           refine hd.trans (a5.trans ?_)
           rw [defP_err1 (E := 6) (by simp [stepP, hta', hop1, hnn]) (by decide), m2]
      ·rename_i hdo
       have hw := step_word es nt (tk + 1) dc b r kn hst' hnum hif hdo
       rcases word_eq hA dc r kn (tokS toks I) hl hbr.ido with ⟨w1, w2, dc', w3, w4, w5, w6⟩ | ⟨w1, w2⟩
       ·rw [if_pos w1]
        have hw2 : stepP es nt (tk + 1) dc (b :: r) kn (nx s a).1 = (0, dc', b.add (wordI ws (tokS toks I)) :: r, kn) := by rw [n1]; exact hw.trans w3
        exact (ih ends loops _ (I + 1) g (tk + 1) _ (b.add (wordI ws (tokS toks I))) r kn _ (by omega) (by omega) (by omega) hat1 (hbr.snoc _ _ w2) hl hop hends).step (defP_ok1 hw2) (by omega) (by omega) (Same.add b _) (fun p hp => hp.snoc w4 w5 w6)
       ·rw [if_neg w1]
        exact bad (by rw [hw]; exact w2) w1
end Go.Proofs.YtcphhbofjkenaaaGreatDoor
