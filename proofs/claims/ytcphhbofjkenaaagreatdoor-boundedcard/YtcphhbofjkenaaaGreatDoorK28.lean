import Derived.Deep.OwnRows
import Derived.Test.YtcphhbofjkenaaaGreatDoorK01
import Derived.Test.YtcphhbofjkenaaaGreatDoorK02
import Derived.Test.YtcphhbofjkenaaaGreatDoorK11
import Derived.Test.YtcphhbofjkenaaaGreatDoorK16
import Derived.Test.YtcphhbofjkenaaaGreatDoorK20
import Derived.Test.YtcphhbofjkenaaaGreatDoorK25
import Derived.Test.YtcphhbofjkenaaaGreatDoorK26

namespace Go.Proofs.YtcphhbofjkenaaaGreatDoor
open Go Go.RowKit
set_option linter.unusedVariables false
set_option linter.unusedSimpArgs false

structure Inf.Sm (i : Inf) : Prop where
  s0 : 0 ≤ i.steps
  s1 : i.steps ≤ 1000000001
  h0 : 0 ≤ i.high
  big : 1000000000 < i.steps ∨ (-4 * i.steps ≤ i.need ∧ i.need ≤ 4 * i.steps ∧ -4 * i.steps ≤ i.net ∧ i.net ≤ 4 * i.steps ∧ i.high ≤ 4 * i.steps)

theorem Inf.Sm.wt {i : Inf} (h : i.Sm) (hs : i.steps ≤ 1000000000) : i.Wt 1 := by
  obtain ⟨a, b, c, d⟩ := h
  constructor <;> omega
theorem Inf.Sm.zero : Inf.zero.Sm := by constructor <;> simp [Inf.zero]
theorem Inf.Sm.then {a b : Inf} (ha : a.Sm) (hb : b.Sm) : (a.then b).Sm := by
  obtain ⟨a1, a2, a3, a4⟩ := ha
  obtain ⟨b1, b2, b3, b4⟩ := hb
  constructor <;> simp only [Inf.then] <;> omega
theorem Inf.Sm.orP {a b : Inf} (ha : a.Sm) (hb : b.Sm) : (a.orP b).Sm := by
  obtain ⟨a1, a2, a3, a4⟩ := ha
  obtain ⟨b1, b2, b3, b4⟩ := hb
  constructor <;> simp only [Inf.orP] <;> omega
theorem Inf.Sm.timesP {a : Inf} {n : Int} (ha : a.Sm) (h0 : 0 ≤ n) : (a.timesP n).Sm := by
  obtain ⟨a1, a2, a3, a4⟩ := ha
  unfold Inf.timesP
  split
  · constructor <;> simp
  · rename_i hn
    have hp : a.steps * 1 ≤ a.steps * n := Int.mul_le_mul_of_nonneg_left (by omega) a1
    constructor <;> simp only <;> omega
theorem opInf_sm (k : Nat) (h : k < 35) : (opInf k).Sm := by
  obtain ⟨a, b, c, d⟩ := opTab_bd k h
  constructor <;> simp only [opInf] <;> omega
theorem PE.use_sm {x : PE} (h : x.inf.Sm) : x.use.Sm := by
  unfold PE.use
  split
  · exact opInf_sm 28 (by omega)
  · exact (opInf_sm 33 (by omega)).then h

structure PB.Sm (b : PB) : Prop where
  d : b.does.Sm
  o : b.other.Sm
  t : 0 ≤ b.times

theorem PB.Sm.add {b : PB} {i : Inf} (h : b.Sm) (hi : i.Sm) : (b.add i).Sm := ⟨h.d.then hi, h.o, h.t⟩
theorem PB.Sm.z (b : PB) (hd : b.does = Inf.zero) (ho : b.other.Sm) (ht : 0 ≤ b.times) : b.Sm := ⟨by rw [hd]; exact Inf.Sm.zero, ho, ht⟩

theorem step_sm (es : List PE) (hes : ∀ x ∈ es, x.inf.Sm) (nt tk : Int) (dc : List Int) (st : List PB) (kn : Inf) (s : ByteArray) (hst : ∀ b ∈ st, b.Sm)
    (R : SR) (hR : stepP es nt tk dc st kn s = R) (h0 : R.1 = 0) : (∀ b ∈ R.2.2.1, b.Sm) ∧ (R.2.2.1 = [] → R.2.2.2.Wt 1 ∧ R.2.2.2.Sm ∧ nt + tk ≤ 400) ∧ R.2.1.length ≤ dc.length + 2 := by
  cases st with
  | nil =>
    subst hR
    exact absurd h0 (by simp [stepP])
  | cons b r =>
    have hb := hst b (List.mem_cons_self ..)
    have hr : ∀ c ∈ r, c.Sm := fun c hc => hst c (List.mem_cons_of_mem _ hc)
    have two : ∀ {x y : PB} {l : List PB}, x.Sm → y.Sm → (∀ c ∈ l, c.Sm) → ∀ c ∈ x :: y :: l, c.Sm := fun hx hy hl c hc => by
      rcases List.mem_cons.1 hc with rfl | hc
      · exact hx
      · rcases List.mem_cons.1 hc with rfl | hc
        · exact hy
        · exact hl c hc
    have one : ∀ {x : PB} {l : List PB}, x.Sm → (∀ c ∈ l, c.Sm) → ∀ c ∈ x :: l, c.Sm := fun hx hl c hc => by
      rcases List.mem_cons.1 hc with rfl | hc
      · exact hx
      · exact hl c hc
    unfold stepP at hR
    simp only at hR
    have bad : ∀ (E : Int), E ≠ 0 → R = (E, dc, b :: r, kn) → False := fun E hE e => hE (by rw [e] at h0; exact h0)
    by_cases g0 : (s.toList == []) = true
    · rw [if_pos g0] at hR; exact (bad 5 (by decide) hR.symm).elim
    rw [if_neg g0] at hR
    by_cases g1 : (s.toList == [58]) = true
    · rw [if_pos g1] at hR; exact (bad 5 (by decide) hR.symm).elim
    rw [if_neg g1] at hR
    by_cases g2 : (s.toList == [118, 97, 114, 105, 97, 98, 108, 101]) = true
    · rw [if_pos g2] at hR; exact (bad 5 (by decide) hR.symm).elim
    rw [if_neg g2] at hR
    by_cases g3 : (s.toList == [59]) = true
    · rw [if_pos g3] at hR
      by_cases ho : b.opener = 34
      · rw [if_pos ho] at hR
        subst hR
        have hs := hb.d.then (opInf_sm 34 (by omega))
        simp only [endErr] at h0
        by_cases q1 : 1000000000 < (b.does.then (opInf 34)).steps
        · rw [if_pos q1] at h0; exact absurd h0 (by decide)
        rw [if_neg q1] at h0
        by_cases q2 : 400 < nt + tk
        · rw [if_pos q2] at h0; exact absurd h0 (by decide)
        exact ⟨fun c hc => (List.not_mem_nil hc).elim, fun _ => ⟨hs.wt (by omega), hs, by omega⟩, by simp⟩
      · rw [if_neg ho] at hR; exact (bad 5 (by decide) hR.symm).elim
    rw [if_neg g3] at hR
    by_cases g4 : (s.toList == [105, 102]) = true
    · rw [if_pos g4] at hR
      subst hR
      exact ⟨two (PB.Sm.z _ rfl Inf.Sm.zero (Int.le_refl _)) (hb.add (opInf_sm 29 (by omega))) hr, fun e => absurd e (List.cons_ne_nil _ _), by simp⟩
    rw [if_neg g4] at hR
    by_cases g5 : (s.toList == [101, 108, 115, 101]) = true
    · rw [if_pos g5] at hR
      by_cases ho : b.opener = 29
      · rw [if_pos ho] at hR
        cases r with
        | nil => exact (bad 5 (by decide) hR.symm).elim
        | cons c r' =>
          simp only at hR
          subst hR
          exact ⟨two (PB.Sm.z _ rfl (hb.d.then (opInf_sm 30 (by omega))) (Int.le_refl _)) (hr c (List.mem_cons_self ..)) (fun x hx => hr x (List.mem_cons_of_mem _ hx)), fun e => absurd e (List.cons_ne_nil _ _), by simp⟩
      · rw [if_neg ho] at hR; exact (bad 5 (by decide) hR.symm).elim
    rw [if_neg g5] at hR
    by_cases g6 : (s.toList == [116, 104, 101, 110]) = true
    · rw [if_pos g6] at hR
      by_cases ho : b.opener = 29 ∨ b.opener = 30
      · rw [if_pos ho] at hR
        by_cases hn : b.does.net = b.other.net
        · rw [if_pos hn] at hR
          cases r with
          | nil => exact (bad 5 (by decide) hR.symm).elim
          | cons c r' =>
            simp only at hR
            subst hR
            exact ⟨one ((hr c (List.mem_cons_self ..)).add (hb.d.orP hb.o)) (fun x hx => hr x (List.mem_cons_of_mem _ hx)), fun e => absurd e (List.cons_ne_nil _ _), by simp⟩
        · rw [if_neg hn] at hR; exact (bad 6 (by decide) hR.symm).elim
      · rw [if_neg ho] at hR; exact (bad 5 (by decide) hR.symm).elim
    rw [if_neg g6] at hR
    by_cases g7 : (s.toList == [100, 111]) = true
    · rw [if_pos g7] at hR
      by_cases q1 : b.numbers < 2
      · rw [if_pos q1] at hR; exact (bad 5 (by decide) hR.symm).elim
      rw [if_neg q1] at hR
      by_cases q2 : 1000 < max 0 (b.a0 - b.a1)
      · rw [if_pos q2] at hR; exact (bad 7 (by decide) hR.symm).elim
      rw [if_neg q2] at hR
      subst hR
      exact ⟨two (PB.Sm.z _ rfl Inf.Sm.zero (Int.le_max_left _ _)) (hb.add (opInf_sm 31 (by omega))) hr, fun e => absurd e (List.cons_ne_nil _ _), by simp⟩
    rw [if_neg g7] at hR
    by_cases g8 : (s.toList == [108, 111, 111, 112]) = true
    · rw [if_pos g8] at hR
      by_cases ho : b.opener = 31
      · rw [if_pos ho] at hR
        by_cases hn : b.does.net = 0
        · rw [if_pos hn] at hR
          cases r with
          | nil => exact (bad 5 (by decide) hR.symm).elim
          | cons c r' =>
            simp only at hR
            subst hR
            exact ⟨one ((hr c (List.mem_cons_self ..)).add ((hb.d.then (opInf_sm 32 (by omega))).timesP hb.t)) (fun x hx => hr x (List.mem_cons_of_mem _ hx)), fun e => absurd e (List.cons_ne_nil _ _), by simp⟩
        · rw [if_neg hn] at hR; exact (bad 6 (by decide) hR.symm).elim
      · rw [if_neg ho] at hR; exact (bad 5 (by decide) hR.symm).elim
    rw [if_neg g8] at hR
    by_cases g9 : (numP s).2 = true
    · rw [if_pos g9] at hR
      subst hR
      have hx := hb.add (opInf_sm 28 (by omega))
      exact ⟨one ⟨hx.d, hx.o, hx.t⟩ hr, fun e => absurd e (List.cons_ne_nil _ _), by simp⟩
    rw [if_neg g9] at hR
    unfold stepW at hR
    cases hlp : lastP es s es.length with
    | some x =>
      rw [hlp] at hR
      simp only at hR
      subst hR
      exact ⟨one (hb.add (PE.use_sm (hes x (lastP_mem es s _ x (Nat.le_refl _) hlp)))) hr, fun e => absurd e (List.cons_ne_nil _ _), by simp⟩
    | none =>
      rw [hlp] at hR
      simp only at hR
      cases hop : opFind s with
      | none =>
        rw [hop] at hR
        exact (bad 3 (by decide) hR.symm).elim
      | some k =>
        rw [hop] at hR
        simp only at hR
        by_cases q : k = 27 ∧ b.inDo = false
        · rw [if_pos q] at hR; exact (bad 5 (by decide) hR.symm).elim
        · rw [if_neg q] at hR
          subst hR
          exact ⟨one (hb.add (opInf_sm k (opFind_lt hop))) hr, fun e => absurd e (List.cons_ne_nil _ _), by simp⟩

theorem defP_sm (es : List PE) (hes : ∀ x ∈ es, x.inf.Sm) (nt : Int) (s : ByteArray) : ∀ (f : Nat) (tk : Int) (dc : List Int) (st : List PB) (kn : Inf) (a : Nat), (∀ b ∈ st, b.Sm) → (st = [] → kn.Wt 1 ∧ kn.Sm ∧ nt + tk ≤ 400) → a ≤ s.size →
    ∀ dc' kn' tk' a', defP es nt s f tk dc st kn a = .inl (dc', kn', tk', a') → kn'.Wt 1 ∧ kn'.Sm ∧ nt + tk' ≤ 400 ∧ tk ≤ tk' ∧ (dc'.length : Int) ≤ dc.length + 2 * (tk' - tk) ∧ a ≤ a' ∧ a' ≤ s.size
  | 0, tk, dc, st, kn, a, h1, h2, h3, dc', kn', tk', a', h => by rw [defP] at h; cases h
  | f + 1, tk, dc, [], kn, a, h1, h2, h3, dc', kn', tk', a', h => by
    rw [defP] at h
    cases h
    obtain ⟨i1, i2, i3⟩ := h2 rfl
    exact ⟨i1, i2, i3, Int.le_refl _, by omega, Nat.le_refl _, h3⟩
  | f + 1, tk, dc, b :: r, kn, a, h1, h2, h3, dc', kn', tk', a', h => by
    rw [defP] at h
    obtain ⟨m1, m2, m3, m4⟩ := nextF_le s (s.size - a) a h3
    obtain ⟨T, hT⟩ : ∃ T, T = stepP es nt (tk + 1) dc (b :: r) kn (nx s a).1 := ⟨_, rfl⟩
    rw [← hT] at h
    by_cases h0 : T.1 = 0
    · rw [if_pos h0] at h
      obtain ⟨k1, k2, k3⟩ := step_sm es hes nt (tk + 1) dc (b :: r) kn (nx s a).1 h1 T hT.symm h0
      obtain ⟨j1, j2, j3, j4, j5, j6, j7⟩ := defP_sm es hes nt s f (tk + 1) T.2.1 T.2.2.1 T.2.2.2 (nx s a).2.2 k1 k2 m3 dc' kn' tk' a' h
      exact ⟨j1, j2, j3, by omega, by omega, by unfold nx at j6; omega, j7⟩
    · rw [if_neg h0] at h
      cases h

end Go.Proofs.YtcphhbofjkenaaaGreatDoor

namespace Go.Proofs.YtcphhbofjkenaaaGreatDoor
open Go

theorem name_at {es : List PE} {ws : List RW} (h : es.map PE.name = ws.map RW.name) (k : Nat) : nameAt ws k = (es.getD k PE.zero).name := by
  unfold nameAt
  rw [← h, List.getD_eq_getElem?_getD, List.getD_eq_getElem?_getD, List.getElem?_map]
  cases es[k]? <;> rfl

theorem last_find {es : List PE} {ws : List RW} (h : es.map PE.name = ws.map RW.name) (s : ByteArray) : ∀ n, lastP es s n = if 0 ≤ lastK (nameAt ws) s n then some (es.getD (lastK (nameAt ws) s n).toNat PE.zero) else none
  | 0 => by simp [lastP, lastK]
  | n + 1 => by
    unfold lastP lastK
    rw [name_at h n]
    by_cases hc : ((es.getD n PE.zero).name.toList == s.toList) = true
    · rw [if_pos hc, if_pos hc, if_pos (by omega)]
      simp
    · rw [if_neg hc, if_neg hc]
      exact last_find h s n

theorem last_findW {es : List PE} {ws : List RW} (h : es.map PE.name = ws.map RW.name) (s : ByteArray) : lastP es s es.length = if 0 ≤ findW ws s then some (es.getD (findW ws s).toNat PE.zero) else none := by
  have hl : es.length = ws.length := by have := congrArg List.length h; simpa using this
  rw [hl]
  exact last_find h s _

end Go.Proofs.YtcphhbofjkenaaaGreatDoor

namespace Go.Proofs.YtcphhbofjkenaaaGreatDoor
open Go Go.RowKit
set_option linter.unusedVariables false
set_option linter.unusedSimpArgs false

structure Inf.Nn (i : Inf) : Prop where
  n : 0 ≤ i.need
  m : 0 ≤ i.need + i.net
  h : 0 ≤ i.high
  k : i.net ≤ i.high
  s : 0 ≤ i.steps
  t : i.steps ≤ 1000000001

theorem Inf.ext' {a b : Inf} (h1 : a.need = b.need) (h2 : a.net = b.net) (h3 : a.high = b.high) (h4 : a.steps = b.steps) (h5 : a.str = b.str) : a = b := by
  cases a; cases b; simp_all

theorem Inf.Nn.zero : Inf.zero.Nn := by constructor <;> simp [Inf.zero]
theorem Inf.Nn.then {a b : Inf} (ha : a.Nn) (hb : b.Nn) : (a.then b).Nn := by
  obtain ⟨a1, a2, a3, a4, a5, a6⟩ := ha
  obtain ⟨b1, b2, b3, b4, b5, b6⟩ := hb
  constructor <;> simp only [Inf.then] <;> omega
theorem Inf.Nn.more {a : Inf} (ha : a.Nn) : a.more.Nn := by
  obtain ⟨a1, a2, a3, a4, a5, a6⟩ := ha
  constructor <;> simp only [Inf.more] <;> omega
theorem Inf.Nn.ways {a b : Inf} (ha : a.Nn) (hb : b.Nn) (hn : a.net = b.net) : (a.ways b).Nn := by
  obtain ⟨a1, a2, a3, a4, a5, a6⟩ := ha
  obtain ⟨b1, b2, b3, b4, b5, b6⟩ := hb
  constructor <;> simp only [Inf.ways] <;> omega
theorem Inf.Nn.times {a : Inf} (ha : a.Nn) {n : Int} (hn : 0 ≤ n) : (a.times n).Nn := by
  obtain ⟨a1, a2, a3, a4, a5, a6⟩ := ha
  have hp : 0 ≤ n * min (a.steps + 1) 1000000001 := Int.mul_nonneg hn (by omega)
  unfold Inf.times
  split <;> constructor <;> simp only <;> omega
theorem Inf.Nn.plain {t p : Int} (ht : 0 ≤ t) (hp : 0 ≤ p) : (Inf.plain t p).Nn := by
  constructor <;> simp only [Inf.plain] <;> omega

theorem then_assoc {a b c : Inf} (ha : a.Nn) (hb : b.Nn) (hc : c.Nn) : (a.then b).then c = a.then (b.then c) := by
  obtain ⟨a1, a2, a3, a4, a5, a6⟩ := ha
  obtain ⟨b1, b2, b3, b4, b5, b6⟩ := hb
  obtain ⟨c1, c2, c3, c4, c5, c6⟩ := hc
  refine Inf.ext' ?_ ?_ ?_ ?_ ?_ <;> simp only [Inf.then]
  · omega
  · omega
  · omega
  · omega
  · exact Bool.and_assoc _ _ _

theorem op_none : opInf 30 = ⟨0, 0, 0, 1, true⟩ ∧ opInf 32 = ⟨0, 0, 0, 1, true⟩ ∧ opInf 33 = ⟨0, 0, 0, 1, true⟩ ∧ opInf 34 = ⟨0, 0, 0, 1, true⟩ := ⟨rfl, rfl, rfl, rfl⟩
theorem op_some : opInf 28 = Inf.plain 0 1 ∧ opInf 29 = ⟨1, -1, 0, 1, false⟩ ∧ opInf 31 = Inf.plain 2 0 := ⟨rfl, rfl, rfl⟩

theorem then_one {i : Inf} (h : i.Nn) : i.then ⟨0, 0, 0, 1, true⟩ = i.more := by
  obtain ⟨a1, a2, a3, a4, a5, a6⟩ := h
  refine Inf.ext' ?_ ?_ ?_ ?_ ?_ <;> simp only [Inf.then, Inf.more]
  · omega
  · omega
  · omega
  · simp
theorem one_then {i : Inf} (h : i.Nn) : Inf.then ⟨0, 0, 0, 1, true⟩ i = i.more := by
  obtain ⟨a1, a2, a3, a4, a5, a6⟩ := h
  refine Inf.ext' ?_ ?_ ?_ ?_ ?_ <;> simp only [Inf.then, Inf.more]
  · omega
  · omega
  · omega
  · omega
  · simp
theorem if_eq {d x y : Inf} (hd : d.Nn) (hx : x.Nn) (hy : y.Nn) (hn : x.net = y.net) : (d.then (opInf 29)).then (x.orP y) = d.then ((Inf.plain 1 0).then (y.ways x)) := by
  obtain ⟨a1, a2, a3, a4, a5, a6⟩ := hd
  obtain ⟨b1, b2, b3, b4, b5, b6⟩ := hx
  obtain ⟨c1, c2, c3, c4, c5, c6⟩ := hy
  rw [op_some.2.1]
  refine Inf.ext' ?_ ?_ ?_ ?_ ?_ <;> simp only [Inf.then, Inf.orP, Inf.ways, Inf.plain]
  · omega
  · omega
  · omega
  · omega
  · simp
theorem do_eq {d x : Inf} {n : Int} (hd : d.Nn) (hx : x.Nn) (hn : 0 ≤ n) : (d.then (opInf 31)).then ((x.then (opInf 32)).timesP n) = d.then ((Inf.plain 2 0).then (x.times n)) := by
  have e : (x.then (opInf 32)).timesP n = x.times n := by
    rw [op_none.2.1, then_one hx]
    unfold Inf.timesP Inf.times
    split
    · rfl
    · refine Inf.ext' ?_ ?_ ?_ ?_ ?_ <;> simp only [Inf.more]
      rw [Int.mul_comm]
  rw [e, op_some.2.2, ← then_assoc hd (Inf.Nn.plain (by omega) (by omega)) (hx.times hn)]

theorem infAt_snoc (l : List AI) (x : AI) (j : Nat) (h : j < l.length) : infAt (l ++ [x]) j = infAt l j := by
  unfold infAt
  simp [List.getD, List.getElem?_append_left, h]
theorem upTo_congr {f g : Nat → Inf} : ∀ n, (∀ j, j < n → f j = g j) → upTo f n = upTo g n
  | 0, _ => rfl
  | n + 1, h => by rw [upTo, upTo, upTo_congr n (fun j hj => h j (by omega)), h n (by omega)]
theorem infL_snoc (l : List AI) (x : AI) : infL (l ++ [x]) = (infL l).then x.inf := by
  unfold infL
  rw [show (l ++ [x]).length = l.length + 1 by simp, upTo, upTo_congr l.length (fun j hj => infAt_snoc l x j hj)]
  congr 1
  simp [infAt]
def NumR (b : PB) (l : List AI) : Prop :=
  match l.reverse with
  | ⟨some y, _, _⟩ :: ⟨some x, _, _⟩ :: _ => b.numbers = 2 ∧ b.a0 = x ∧ b.a1 = y
  | ⟨some y, _, _⟩ :: _ => b.numbers = 1 ∧ b.a1 = y
  | _ => b.numbers = 0
theorem NumR.none {b : PB} {l : List AI} {i : Inf} {t : IT} (h : b.numbers = 0) : NumR b (l ++ [⟨none, i, t⟩]) := by
  unfold NumR; simp [h]
theorem NumR.some {b b' : PB} {l : List AI} {i : Inf} {t : IT} {n : Int} (h : NumR b l) (h1 : b'.numbers = min (b.numbers + 1) 2) (h2 : b'.a0 = b.a1) (h3 : b'.a1 = n) : NumR b' (l ++ [⟨some n, i, t⟩]) := by
  unfold NumR at h ⊢
  rw [List.reverse_append]
  generalize l.reverse = q at h
  match q, h with
  | [], h => simp at h ⊢; omega
  | ⟨Option.none, _, _⟩ :: _, h => simp at h ⊢; omega
  | [⟨Option.some y, _, _⟩], h => simp at h ⊢; omega
  | ⟨Option.some y, _, _⟩ :: ⟨Option.none, _, _⟩ :: _, h => simp at h ⊢; omega
  | ⟨Option.some y, _, _⟩ :: ⟨Option.some x, _, _⟩ :: _, h => simp at h ⊢; omega
theorem NumR.two {b : PB} {l : List AI} (h : NumR b l) : (b.numbers < 2 ∧ lastTwo l = Option.none) ∨ (b.numbers = 2 ∧ lastTwo l = Option.some (b.a0, b.a1)) := by
  unfold NumR at h
  unfold lastTwo
  generalize l.reverse = q at h
  match q, h with
  | [], h => left; simp at h ⊢; omega
  | ⟨Option.none, _, _⟩ :: _, h => left; simp at h ⊢; omega
  | [⟨Option.some y, _, _⟩], h => left; simp at h ⊢; omega
  | ⟨Option.some y, _, _⟩ :: ⟨Option.none, _, _⟩ :: _, h => left; simp at h ⊢; omega
  | ⟨Option.some y, _, _⟩ :: ⟨Option.some x, _, _⟩ :: _, h => right; simp at h ⊢; exact ⟨h.1, h.2.1.symm, h.2.2.symm⟩

structure At (s : ByteArray) (toks : List Tk) (I a : Nat) : Prop where
  le : a ≤ s.size
  tk : toksAt s a = toks.drop I
  sd : Sound s a

theorem next_end (s : ByteArray) : ∀ (f a : Nat), a ≤ s.size → s.size - a ≤ f → toksAt s a = [] → (nextF s f a).2.1 = s.size := by
  have main : ∀ a, a ≤ s.size → toksAt s a = toksAt s (cutB s a) ∧ (cutB s a < s.size → blk (byt s (cutB s a)) = false) := fun a ha => by
    have hB := scan_spec ink s a ha
    refine ⟨toks_skip s (cutB s a - a) a (cutB s a) (by have := hB.1; unfold cutB; omega) hB.2.1 (fun x h1 h2 => ?_), fun h => ?_⟩
    · have := hB.2.2.1 x h1 h2
      unfold ink at this; simpa using this
    · rcases hB.2.2.2 with e | e
      · exact absurd e (by unfold cutB at h; omega)
      · have e' : (!blk (byt s (cutB s a))) = true := e
        simpa using e'
  intro f
  induction f with
  | zero =>
    intro a ha hf h
    obtain ⟨l1, l2, l3⟩ := cut_le s a ha
    unfold nextF; simp only; omega
  | succ f ih =>
    intro a ha hf h
    obtain ⟨l1, l2, l3⟩ := cut_le s a ha
    unfold nextF
    by_cases hb : cutB s a < s.size
    · have hk := (main a ha).2 hb
      have hlt : cutB s a < cutE s a := scan_blk_lt s _ hb hk
      by_cases hn : ((s.extract (cutB s a) (cutE s a)).toList == [92]) = true
      · rw [if_pos hn]
        have hsp := scan_spec eol s (cutE s a) l3
        have e : toksAt s a = toksAt s (scan eol s (cutE s a)) := by
          rw [(main a ha).1, toksAt_note s _ hb hk ((ext_list _ _).1 hn)]; rfl
        exact ih _ hsp.2.1 (by have := hsp.1; omega) (by rw [← e]; exact h)
      · exfalso
        rw [(main a ha).1, toksAt_tok s _ hb hk (fun e => hn ((ext_list _ _).2 e))] at h
        cases h
    · have e : cutB s a = s.size := by omega
      split
      · have hsp := scan_spec eol s (cutE s a) l3
        exact ih _ hsp.2.1 (by have := hsp.1; omega) (toksAt_end s _ (by have := hsp.1; omega))
      · exact e

theorem At.next {s : ByteArray} {toks : List Tk} {I a : Nat} (h : At s toks I a) (hI : I ≤ toks.length) :
    (nx s a).1 = tokS toks I ∧ ((nx s a).2.1 : Int) = plc toks s.size I ∧ ((tokS toks I).toList = [] ∨ (I < toks.length ∧ At s toks (I + 1) (nx s a).2.2)) := by
  have hle := (nextF_le s (s.size - a) a h.le)
  rcases next_tok s (s.size - a) a h.le (Nat.le_refl _) with ⟨h1, h2⟩ | ⟨h1, h2⟩
  · have hd : toks.drop I = [] := by rw [← h.tk]; exact h1
    have hl : toks.length ≤ I := by
      have := congrArg List.length hd
      simp at this; omega
    have ht : tokS toks I = ⟨#[]⟩ := by simp [tokS, List.getD, List.getElem?_eq_none hl]
    refine ⟨by rw [ht]; exact h2, ?_, Or.inl (by rw [ht]; exact ba_list [])⟩
    have := next_end s (s.size - a) a h.le (Nat.le_refl _) h1
    unfold nx; rw [this]
    simp [plc, Nat.not_lt.2 hl]
  · have hd := h.tk
    rw [h1] at hd
    have hl : I < toks.length := by
      rcases Nat.lt_or_ge I toks.length with h3 | h3
      · exact h3
      · rw [List.drop_eq_nil_of_le h3] at hd; cases hd
    rw [List.drop_eq_getElem_cons hl] at hd
    have e1 := (List.cons.inj hd).1
    have e2 := (List.cons.inj hd).2
    refine ⟨?_, ?_, Or.inr ⟨hl, ⟨hle.2.2.1, e2, (next_name h.sd h.le).2⟩⟩⟩
    · simp [tokS, hl, ← e1, nx]
    · simp [plc, hl, ← e1, nx]

theorem At.name {s : ByteArray} {toks : List Tk} {I a : Nat} (h : At s toks I a) (hI : I ≤ toks.length) : nameP (nx s a).1 = nameS (tokS toks I) := by
  rw [← (h.next hI).1]; exact (next_name h.sd h.le).1

end Go.Proofs.YtcphhbofjkenaaaGreatDoor

namespace Go.Proofs.YtcphhbofjkenaaaGreatDoor
open Go Go.RowKit
set_option linter.unusedVariables false
set_option linter.unusedSimpArgs false

inductive CItem (es : List PE) (code : List Int) : Bool → IT → Nat → Nat → Prop
  | num (d : Bool) (n : Int) (p : Nat) (h : -2147483648 ≤ n ∧ n ≤ 2147483647) (h1 : code[p]? = some 28) (h2 : code[p + 1]? = some n) : CItem es code d (.num n) p (p + 2)
  | op (d : Bool) (s : ByteArray) (k p : Nat) (h : opFind s = some k) (h1 : code[p]? = some (k : Int)) (h2 : k = 27 → d = true) : CItem es code d (.op s) p (p + 1)
  | var (d : Bool) (k : Nat) (x : PE) (p : Nat) (h : es[k]? = some x) (hv : x.var = true) (h1 : code[p]? = some 28) (h2 : code[p + 1]? = some x.place) : CItem es code d (.own k) p (p + 2)
  | own (d : Bool) (k : Nat) (x : PE) (p : Nat) (h : es[k]? = some x) (hv : x.var = false) (h1 : code[p]? = some 33) (h2 : code[p + 1]? = some x.place) : CItem es code d (.own k) p (p + 2)
  | iff (d : Bool) (a : List IT) (p q : Nat) (ps : Nat → Nat) (h1 : code[p]? = some 29) (h2 : code[p + 1]? = some (q : Int)) (h3 : ps 0 = p + 2) (h4 : ps a.length = q) (h5 : ∀ (i : Nat) (t : IT), a[i]? = some t → CItem es code d t (ps i) (ps (i + 1))) : CItem es code d (.iff a) p q
  | els (d : Bool) (a b : List IT) (p q r : Nat) (ps qs : Nat → Nat) (h1 : code[p]? = some 29) (h2 : code[p + 1]? = some ((q + 2 : Nat) : Int)) (h3 : ps 0 = p + 2) (h4 : ps a.length = q) (h5 : ∀ (i : Nat) (t : IT), a[i]? = some t → CItem es code d t (ps i) (ps (i + 1)))
      (k1 : code[q]? = some 30) (k2 : code[q + 1]? = some (r : Int)) (k3 : qs 0 = q + 2) (k4 : qs b.length = r) (k5 : ∀ (i : Nat) (t : IT), b[i]? = some t → CItem es code d t (qs i) (qs (i + 1))) : CItem es code d (.els a b) p r
  | doo (d : Bool) (a : List IT) (p q : Nat) (ps : Nat → Nat) (h1 : code[p]? = some 31) (h2 : code[p + 1]? = some ((q + 2 : Nat) : Int)) (h3 : ps 0 = p + 2) (h4 : ps a.length = q) (h5 : ∀ (i : Nat) (t : IT), a[i]? = some t → CItem es code true t (ps i) (ps (i + 1)))
      (k1 : code[q]? = some 32) (k2 : code[q + 1]? = some ((p + 2 : Nat) : Int)) : CItem es code d (.doo a) p (q + 2)

theorem chain {a : List IT} {ps : Nat → Nat} {L : Nat} (h : ∀ (i : Nat) (t : IT), a[i]? = some t → ps i < ps (i + 1) ∧ ps (i + 1) ≤ L) (h0 : ps 0 ≤ L) : ∀ j, j ≤ a.length → ps j ≤ L ∧ ∀ i, i ≤ j → ps i ≤ ps j
  | 0, _ => ⟨h0, fun i hi => by rw [show i = 0 by omega]; exact Nat.le_refl _⟩
  | j + 1, hj => by
    obtain ⟨h1, h2⟩ := h j a[j] (List.getElem?_eq_getElem (by omega))
    obtain ⟨_, h4⟩ := chain h h0 j (by omega)
    refine ⟨h2, fun i hi => ?_⟩
    rcases Nat.lt_or_ge i (j + 1) with e | e
    · have := h4 i (by omega); omega
    · rw [show i = j + 1 by omega]; exact Nat.le_refl _

theorem code_lt {code : List Int} {p : Nat} {x : Int} (h : code[p]? = some x) : p < code.length := (List.getElem?_eq_some_iff.1 h).1

theorem CItem.le {es : List PE} {code : List Int} {d : Bool} {t : IT} {p q : Nat} (h : CItem es code d t p q) : p < q ∧ q ≤ code.length := by
  induction h with
  | num d n p h h1 h2 => have := code_lt h2; omega
  | op d s k p h h1 h2 => have := code_lt h1; omega
  | var d k x p h hv h1 h2 => have := code_lt h2; omega
  | own d k x p h hv h1 h2 => have := code_lt h2; omega
  | iff d a p q ps h1 h2 h3 h4 h5 ih =>
    have := code_lt h2
    obtain ⟨c1, c2⟩ := chain ih (by omega) a.length (Nat.le_refl _)
    have := c2 0 (by omega)
    omega
  | els d a b p q r ps qs h1 h2 h3 h4 h5 k1 k2 k3 k4 k5 ih ih2 =>
    have := code_lt h2
    have := code_lt k2
    obtain ⟨c1, c2⟩ := chain ih (by omega) a.length (Nat.le_refl _)
    obtain ⟨d1, d2⟩ := chain ih2 (by omega) b.length (Nat.le_refl _)
    have := c2 0 (by omega)
    have := d2 0 (by omega)
    omega
  | doo d a p q ps h1 h2 h3 h4 h5 k1 k2 ih =>
    have := code_lt h2
    have := code_lt k2
    obtain ⟨c1, c2⟩ := chain ih (by omega) a.length (Nat.le_refl _)
    have := c2 0 (by omega)
    omega

theorem CItem.stable {es es' : List PE} {code code' : List Int} {d : Bool} {t : IT} {p q : Nat} (h : CItem es code d t p q) (he : ∀ (k : Nat) (x : PE), es[k]? = some x → es'[k]? = some x) (hc : ∀ i, p ≤ i → i < q → code'[i]? = code[i]?) : CItem es' code' d t p q := by
  induction h with
  | num d n p h h1 h2 => exact .num d n p h ((hc p (by omega) (by omega)).trans h1) ((hc (p + 1) (by omega) (by omega)).trans h2)
  | op d s k p h h1 h2 => exact .op d s k p h ((hc p (by omega) (by omega)).trans h1) h2
  | var d k x p h hv h1 h2 => exact .var d k x p (he _ _ h) hv ((hc p (by omega) (by omega)).trans h1) ((hc (p + 1) (by omega) (by omega)).trans h2)
  | own d k x p h hv h1 h2 => exact .own d k x p (he _ _ h) hv ((hc p (by omega) (by omega)).trans h1) ((hc (p + 1) (by omega) (by omega)).trans h2)
  | iff d a p q ps h1 h2 h3 h4 h5 ih =>
    have hl := code_lt h2
    have hch := chain (fun i t ht => (h5 i t ht).le) (by omega)
    have hq := (hch a.length (Nat.le_refl _)).2 0 (by omega)
    refine .iff d a p q ps ((hc p (by omega) (by omega)).trans h1) ((hc (p + 1) (by omega) (by omega)).trans h2) h3 h4 (fun i t ht => ih i t ht (fun j j1 j2 => hc j ?_ ?_))
    · have hi := (List.getElem?_eq_some_iff.1 ht).1
      have := (hch i (by omega)).2 0 (by omega)
      omega
    · have hi := (List.getElem?_eq_some_iff.1 ht).1
      have := (hch a.length (Nat.le_refl _)).2 (i + 1) (by omega)
      omega
  | els d a b p q r ps qs h1 h2 h3 h4 h5 k1 k2 k3 k4 k5 ih ih2 =>
    have hl := code_lt h2
    have hl2 := code_lt k2
    have hch := chain (fun i t ht => (h5 i t ht).le) (by omega)
    have hq := (hch a.length (Nat.le_refl _)).2 0 (by omega)
    have hch2 := chain (fun i t ht => (k5 i t ht).le) (by omega)
    have hq2 := (hch2 b.length (Nat.le_refl _)).2 0 (by omega)
    refine .els d a b p q r ps qs ((hc p (by omega) (by omega)).trans h1) ((hc (p + 1) (by omega) (by omega)).trans h2) h3 h4 (fun i t ht => ih i t ht (fun j j1 j2 => hc j ?_ ?_)) ((hc q (by omega) (by omega)).trans k1) ((hc (q + 1) (by omega) (by omega)).trans k2) k3 k4 (fun i t ht => ih2 i t ht (fun j j1 j2 => hc j ?_ ?_))
    · have hi := (List.getElem?_eq_some_iff.1 ht).1
      have := (hch i (by omega)).2 0 (by omega)
      omega
    · have hi := (List.getElem?_eq_some_iff.1 ht).1
      have := (hch a.length (Nat.le_refl _)).2 (i + 1) (by omega)
      omega
    · have hi := (List.getElem?_eq_some_iff.1 ht).1
      have := (hch2 i (by omega)).2 0 (by omega)
      omega
    · have hi := (List.getElem?_eq_some_iff.1 ht).1
      have := (hch2 b.length (Nat.le_refl _)).2 (i + 1) (by omega)
      omega
  | doo d a p q ps h1 h2 h3 h4 h5 k1 k2 ih =>
    have hl := code_lt h2
    have hl2 := code_lt k2
    have hch := chain (fun i t ht => (h5 i t ht).le) (by omega)
    have hq := (hch a.length (Nat.le_refl _)).2 0 (by omega)
    refine .doo d a p q ps ((hc p (by omega) (by omega)).trans h1) ((hc (p + 1) (by omega) (by omega)).trans h2) h3 h4 (fun i t ht => ih i t ht (fun j j1 j2 => hc j ?_ ?_)) ((hc q (by omega) (by omega)).trans k1) ((hc (q + 1) (by omega) (by omega)).trans k2)
    · have hi := (List.getElem?_eq_some_iff.1 ht).1
      have := (hch i (by omega)).2 0 (by omega)
      omega
    · have hi := (List.getElem?_eq_some_iff.1 ht).1
      have := (hch a.length (Nat.le_refl _)).2 (i + 1) (by omega)
      omega

def CList (es : List PE) (code : List Int) (d : Bool) (l : List IT) (p q : Nat) : Prop := ∃ ps : Nat → Nat, ps 0 = p ∧ ps l.length = q ∧ ∀ (i : Nat) (t : IT), l[i]? = some t → CItem es code d t (ps i) (ps (i + 1))

theorem CList.nil (es : List PE) (code : List Int) (d : Bool) (p : Nat) : CList es code d [] p p := ⟨fun _ => p, rfl, rfl, fun i t h => by simp at h⟩
theorem CList.le {es : List PE} {code : List Int} {d : Bool} {l : List IT} {p q : Nat} (h : CList es code d l p q) (hp : p ≤ code.length) : p ≤ q ∧ q ≤ code.length := by
  obtain ⟨ps, h1, h2, h3⟩ := h
  obtain ⟨c1, c2⟩ := chain (fun i t ht => (h3 i t ht).le) (by omega) l.length (Nat.le_refl _)
  have := c2 0 (by omega)
  omega
theorem CList.stable {es es' : List PE} {code code' : List Int} {d : Bool} {l : List IT} {p q : Nat} (h : CList es code d l p q) (hp : p ≤ code.length) (he : ∀ (k : Nat) (x : PE), es[k]? = some x → es'[k]? = some x) (hc : ∀ i, p ≤ i → i < q → code'[i]? = code[i]?) : CList es' code' d l p q := by
  obtain ⟨ps, h1, h2, h3⟩ := h
  have hch := chain (fun i t ht => (h3 i t ht).le) (by omega)
  refine ⟨ps, h1, h2, fun i t ht => (h3 i t ht).stable he (fun j j1 j2 => hc j ?_ ?_)⟩
  · have hi := (List.getElem?_eq_some_iff.1 ht).1
    have := (hch i (by omega)).2 0 (by omega)
    omega
  · have hi := (List.getElem?_eq_some_iff.1 ht).1
    have := (hch l.length (Nat.le_refl _)).2 (i + 1) (by omega)
    omega
theorem CList.snoc {es : List PE} {code : List Int} {d : Bool} {l : List IT} {t : IT} {p q r : Nat} (h : CList es code d l p q) (ht : CItem es code d t q r) : CList es code d (l ++ [t]) p r := by
  obtain ⟨ps, h1, h2, h3⟩ := h
  refine ⟨fun i => if i ≤ l.length then ps i else r, by simp [h1], by simp only [List.length_append, List.length_cons, List.length_nil]; rw [if_neg (by omega)], fun i u hu => ?_⟩
  simp only
  by_cases hi : i < l.length
  · rw [List.getElem?_append_left hi] at hu
    rw [if_pos (by omega), if_pos (by omega)]
    exact h3 i u hu
  · rw [List.getElem?_append_right (by omega)] at hu
    have h0 : i - l.length = 0 := by have := (List.getElem?_eq_some_iff.1 hu).1; simp at this; omega
    rw [h0] at hu
    obtain rfl : t = u := by simpa using hu
    obtain rfl : i = l.length := by omega
    rw [if_pos (Nat.le_refl _), if_neg (by omega), h2]
    exact ht

def CO (es : List PE) (dc : List Int) (p : Nat) (loops : Int) (l : List AI) : Prop := p ≤ dc.length ∧ CList es dc (decide (0 < loops)) (trees l) p dc.length
theorem CO.snoc {es : List PE} {dc dc' : List Int} {p : Nat} {loops : Int} {l : List AI} {x : AI} (h : CO es dc p loops l) (hl : dc.length ≤ dc'.length) (hc : ∀ i, i < dc.length → dc'[i]? = dc[i]?) (hx : CItem es dc' (decide (0 < loops)) x.tree dc.length dc'.length) : CO es dc' p loops (l ++ [x]) ∧ ∀ i, i < p → dc'[i]? = dc[i]? := by
  refine ⟨⟨Nat.le_trans h.1 hl, ?_⟩, fun i hi => hc i (Nat.lt_of_lt_of_le hi h.1)⟩
  unfold trees
  rw [List.map_append]
  exact (h.2.stable h.1 (fun _ _ => id) (fun i _ hi => hc i hi)).snoc hx
theorem CO.nil (es : List PE) (dc : List Int) (loops : Int) : CO es dc dc.length loops [] := ⟨Nat.le_refl _, CList.nil _ _ _ _⟩

end Go.Proofs.YtcphhbofjkenaaaGreatDoor

namespace Go.Proofs.YtcphhbofjkenaaaGreatDoor
open Go Go.RowKit
set_option linter.unusedVariables false
set_option linter.unusedSimpArgs false

theorem rd_new (s : ByteArray) (w : World) :
    Calls Tryz.prog 77 #[.string s] w fun e w' => e = .returned (.pointer (some ⟨w.heap.size, 0, none⟩)) ∧ Blk w' w.heap.size (rdC s 0) 199 ∧ Below w.heap.size w w' := by
  go_enter Tryz.func77, Tryz.ntmps77
  go_wp2_with fail
  exact bodyPost_ret (v := .pointer (some ⟨w.heap.size, 0, none⟩)) (by simp [results, Tryz.results77, go_sem]) rfl ⟨rfl, blk_new w _ _, (Below.refl _ _).alloc (Nat.le_refl _) _⟩

theorem defP_err (es : List PE) (nt : Int) (s : ByteArray) : ∀ (f : Nat) (tk : Int) (dc : List Int) (st : List PB) (kn : Inf) (a : Nat) (E : Int × Int), defP es nt s f tk dc st kn a = .inr E → E.1 ≠ 0
  | 0, tk, dc, st, kn, a, E, h => by rw [defP] at h; cases h; decide
  | f + 1, tk, dc, [], kn, a, E, h => by rw [defP] at h; cases h
  | f + 1, tk, dc, b :: r, kn, a, E, h => by
    rw [defP] at h
    obtain ⟨T, hT⟩ : ∃ T, T = stepP es nt (tk + 1) dc (b :: r) kn (nx s a).1 := ⟨_, rfl⟩
    rw [← hT] at h
    by_cases h0 : T.1 = 0
    · rw [if_pos h0] at h; exact defP_err es nt s f _ _ _ _ _ E h
    · rw [if_neg h0] at h; cases h; exact h0

structure LInv (es : List PE) (nv nt : Int) (code : List Int) : Prop where
  l : es.length ≤ 40
  w : ∀ x ∈ es, x.inf.Wt 1
  s : ∀ x ∈ es, x.inf.Sm
  v0 : 0 ≤ nv
  v1 : nv ≤ 16
  t0 : 0 ≤ nt
  t1 : nt ≤ 400
  c : (code.length : Int) ≤ 2 * nt

theorem LInv.var {es : List PE} {nv nt : Int} {code : List Int} {s : ByteArray} {a : Nat} (h : LInv es nv nt code) : LInv (varP es nv s a).2.1 (varP es nv s a).2.2 nt code := by
  unfold varP
  split
  · rename_i hf
    split
    · exact h
    · rename_i hv
      have hl : es.length ≠ 40 := by
        intro e
        unfold refP at hf
        split at hf
        · exact absurd hf (by decide)
        · exact absurd hf (by decide)
      have key : ∀ (P : Inf → Prop), P Inf.zero → (∀ x ∈ es, P x.inf) → ∀ x ∈ es ++ [⟨(nx s a).1, true, nv, Inf.zero⟩], P x.inf := fun P p0 p1 x hx => by
        rcases List.mem_append.1 hx with hx | hx
        · exact p1 x hx
        · rw [List.mem_singleton.1 hx]; exact p0
      exact ⟨by have := h.l; simp; omega, key (fun i => i.Wt 1) (Inf.Sm.zero.wt (by decide)) h.w, key (fun i => i.Sm) Inf.Sm.zero h.s, by have := h.v0; simp only; omega, by have := h.v1; simp only; omega, h.t0, h.t1, h.c⟩
  · exact h

theorem LInv.word {es : List PE} {nv nt : Int} {code : List Int} {s : ByteArray} {a : Nat} (ha : a ≤ s.size) (h : LInv es nv nt code) : LInv (wordP es nt code s a).2.1 nv (wordP es nt code s a).2.2.1 (wordP es nt code s a).2.2.2.1 ∧ ((wordP es nt code s a).1.1 = 0 → a ≤ (wordP es nt code s a).2.2.2.2) := by
  obtain ⟨m1, m2, m3, m4⟩ := nextF_le s (s.size - a) a ha
  unfold wordP
  split
  · rename_i hf
    have hl : es.length ≠ 40 := by
      intro e
      unfold refP at hf
      split at hf
      · exact absurd hf (by decide)
      · exact absurd hf (by decide)
    cases hd : defP es nt s (s.size + 2) 2 code [PB.first] Inf.zero (nx s a).2.2 with
    | inr E => exact ⟨h, fun e => absurd e (defP_err es nt s _ _ _ _ _ _ E hd)⟩
    | inl D =>
      obtain ⟨dc, kn, tk, a'⟩ := D
      simp only
      obtain ⟨k1, k2, k3, k4, k5, k6, k7⟩ := defP_sm es h.s nt s _ 2 code [PB.first] Inf.zero (nx s a).2.2 (fun b hb => by rw [List.mem_singleton.1 hb]; exact PB.Sm.z _ rfl Inf.Sm.zero (Int.le_refl _)) (fun e => absurd e (List.cons_ne_nil _ _)) m3 dc kn tk a' hd
      have key : ∀ (P : Inf → Prop), P kn → (∀ x ∈ es, P x.inf) → ∀ x ∈ es ++ [⟨(nx s a).1, false, code.length, kn⟩], P x.inf := fun P p0 p1 x hx => by
        rcases List.mem_append.1 hx with hx | hx
        · exact p1 x hx
        · rw [List.mem_singleton.1 hx]; exact p0
      have := h.t0
      have := h.c
      exact ⟨⟨by have := h.l; simp; omega, key (fun i => i.Wt 1) k1 h.w, key (fun i => i.Sm) k2 h.s, h.v0, h.v1, by omega, by omega, by omega⟩, fun _ => Nat.le_trans m2 k6⟩
  · rename_i hf
    exact ⟨h, fun e => absurd e hf⟩

def loadP (s : ByteArray) : Nat → Nat → List PE → Int → Int → List Int → (Int × Int) × List PE × Int × Int × List Int
  | 0, _, es, nv, nt, code => ((99, 0), es, nv, nt, code)
  | f + 1, a, es, nv, nt, code =>
    if ((nx s a).1.toList == []) = true then ((0, 0), es, nv, nt, code)
    else if ((nx s a).1.toList == [118, 97, 114, 105, 97, 98, 108, 101]) = true then
      if (varP es nv s (nx s a).2.2).1.1 = 0 then loadP s f (nx s (nx s a).2.2).2.2 (varP es nv s (nx s a).2.2).2.1 (varP es nv s (nx s a).2.2).2.2 nt code
      else ((varP es nv s (nx s a).2.2).1, (varP es nv s (nx s a).2.2).2.1, (varP es nv s (nx s a).2.2).2.2, nt, code)
    else if ((nx s a).1.toList == [58]) = true then
      if (wordP es nt code s (nx s a).2.2).1.1 = 0 then loadP s f (wordP es nt code s (nx s a).2.2).2.2.2.2 (wordP es nt code s (nx s a).2.2).2.1 nv (wordP es nt code s (nx s a).2.2).2.2.1 (wordP es nt code s (nx s a).2.2).2.2.2.1
      else ((wordP es nt code s (nx s a).2.2).1, (wordP es nt code s (nx s a).2.2).2.1, nv, (wordP es nt code s (nx s a).2.2).2.2.1, (wordP es nt code s (nx s a).2.2).2.2.2.1)
    else ((3, ((nx s a).2.1 : Int)), es, nv, nt, code)

def loadR (s : ByteArray) (es : List PE) (nv nt : Int) (code : List Int) : (Int × Int) × List PE × Int × Int × List Int :=
  match badF s s.size 0 with
  | some k => ((2, (k : Int)), es, nv, nt, code)
  | none => loadP s (s.size + 1) 0 es nv nt code

def LoadPost (w : World) (bb : Nat) (ev cv : Value) (R : (Int × Int) × List PE × Int × Int × List Int) (e : Ending) (w' : World) : Prop :=
  e = .returned (.tuple #[.int .i64 R.1.1, .int .i64 R.1.2]) ∧ (∃ ev' cv', PSys w' bb ev' cv' R.2.1 R.2.2.1 R.2.2.2.1 R.2.2.2.2 ∧ Tab w' ∧ Lc w ev ev' ∧ Lc w cv cv') ∧ LInv R.2.1 R.2.2.1 R.2.2.2.1 R.2.2.2.2 ∧ Chg (fun k => k = bb ∨ ev.ownBlock = some k ∨ cv.ownBlock = some k) w w'

set_option maxRecDepth 100000 in
set_option maxHeartbeats 4000000 in
theorem book_load {w : World} {bb : Nat} {ev cv : Value} {es : List PE} {nv nt : Int} {code : List Int} (s : ByteArray) (h : PSys w bb ev cv es nv nt code) (ht : Tab w) (hs : s.size ≤ 1100000) (hi : LInv es nv nt code) :
    Calls Tryz.prog 52 #[.pointer (some ⟨bb, 0, none⟩), .string s] w (LoadPost w bb ev cv (loadR s es nv nt code)) := by
  obtain ⟨R, hR⟩ : ∃ R, R = loadR s es nv nt code := ⟨_, rfl⟩
  rw [← hR]
  unfold loadR at hR
  have HB := hidden (tok_broken s w (by omega))
  have HP := hidden h; have HT := hidden ht; have HI := hidden hi
  clear h ht hi
  cases hbad : badF s s.size 0 with
  | some k =>
    rw [hbad] at hR
    simp only at hR
    rw [hbad] at HB
    subst hR
    clear hbad
    go_enter Tryz.func52, Tryz.ntmps52
    go_wp2_with fail
    refine HB.out.mono ?_
    rintro e w1 ⟨rfl, hb1⟩
    simp only [badRes]
    go_wp2_with fail
    exact bodyPost_ret (v := .tuple #[.int .i64 2, .int .i64 k]) (by simp [results, Tryz.results52, go_sem]) rfl ⟨rfl, ⟨_, _, HP.out.below hb1, HT.out.below hb1, Lc.refl _ _, Lc.refl _ _⟩, HI.out, Chg.ofBelow hb1⟩
  | none =>
    rw [hbad] at hR
    simp only at hR
    rw [hbad] at HB
    have HR := hidden hR
    clear hbad hR
    go_enter Tryz.func52, Tryz.ntmps52
    go_wp2_with fail
    refine HB.out.mono ?_
    rintro e w1 ⟨rfl, hb1⟩
    simp only [badRes]
    have H2 := hidden (rd_new s w1)
    have HB1 := hidden hb1
    clear HB hb1
    go_wp2_with fail
    refine H2.out.mono ?_
    rintro e w2 ⟨rfl, hb2, hc2⟩
    obtain ⟨rb, hrb⟩ : ∃ rb, rb = w1.heap.size := ⟨_, rfl⟩
    rw [← hrb] at hb2 ⊢
    have hrw : w.heap.size ≤ rb := by rw [hrb]; exact HB1.out.size
    have hru : 3 ≤ rb := by have := HT.out.lt; omega
    have HBS0 := hidden (BS.mk ((HP.out.below HB1.out).below hc2) ((HT.out.below HB1.out).below hc2) hb2 hru)
    have HC0 := hidden ((Chg.ofBelow HB1.out : Chg (fun k => k = bb ∨ ev.ownBlock = some k ∨ cv.ownBlock = some k) w w1).trans (Chg.ofBelow hc2))
    clear H2 hb2 hc2 hrb HP HT
    go_wp2_with fail
    go_loopw [9] (fun _ wr => ∃ (a f : Nat) (es' : List PE) (nv' nt' : Int) (code' : List Int) (ev' cv' : Value), BS wr bb rb ev' cv' es' nv' nt' code' s a ∧ Hid (R = loadP s f a es' nv' nt' code') ∧ Hid (LInv es' nv' nt' code' ∧ a ≤ s.size ∧ s.size - a + 1 ≤ f ∧ Lc w ev ev' ∧ Lc w cv cv') ∧ Chg (fun k => k = bb ∨ ev.ownBlock = some k ∨ cv.ownBlock = some k) w wr) (fun _ wr => s.size - atOf wr rb)
    case atStart => exact ⟨0, s.size + 1, es, nv, nt, code, ev, cv, HBS0.out, HR, ⟨HI.out, Nat.zero_le _, by omega, Lc.refl _ _, Lc.refl _ _⟩, HC0.out⟩
    case round =>
      clear HBS0 HC0 HR HB1 HI
      obtain ⟨a, f, es', nv', nt', code', ev', cv', hbs, HRR, HJ, hc⟩ := hrel
      obtain ⟨j1, j2, j3, j4, j5⟩ := HJ.out
      obtain ⟨m1, m2, m3, m4⟩ := nextF_le s (s.size - a) a j2
      have hmv := fun hne => nextF_move s (s.size - a) a j2 hne
      have hN := hidden (rd_next rb s a wr j2 (by omega) hbs.rd)
      obtain ⟨x, hx⟩ : ∃ x, x = nextF s (s.size - a) a := ⟨_, rfl⟩
      have hxx : nx s a = x := hx.symm
      rw [← hx] at hN m1 m2 m3 m4 hmv
      obtain ⟨t, pl, b⟩ := x
      simp only at hN m1 m2 m3 m4 hmv
      obtain ⟨f', rfl⟩ : ∃ f', f = f' + 1 := ⟨f - 1, by omega⟩
      have hrr := HRR.out
      rw [loadP, hxx] at hrr
      simp only at hrr
      have hat : atOf wr rb = a := by unfold atOf; rw [show wr.cell? ⟨rb, 1, none⟩ = some (.int .i64 a) from hbs.rd.cell 1 _ rfl]; simp
      have HBS := hidden hbs; have HRF := hidden hrr; have HMV := hidden hmv; have HAT := hidden hat; have HM := hidden (And.intro m1 (And.intro m2 (And.intro m3 m4))); have HC := hidden hc
      clear hbs hrr hx hxx hmv hat m1 m2 m3 m4 j1 j2 j3 j4 j5 HRR hc
      go_wp2_with fail
      refine hN.out.mono ?_
      rintro e w4 ⟨rfl, hb4, hc4⟩
      have hbs4 := HBS.out.next hb4 hc4
      have hbs5 := hbs4.below ((Below.refl _ _).alloc (Nat.le_refl _) (.cells #[.string t, .int .i64 pl] 163 (0, 0)))
      have HB5 := hidden hbs5
      have HC5 := hidden ((HC.out.thru hc4 (fun k hk e => by omega)).alloc (.cells #[.string t, .int .i64 pl] 163 (0, 0)))
      have hbl : b ≤ s.size := HM.out.2.2.1
      have hk5 := blk_new w4 #[.string t, .int .i64 pl] 163
      obtain ⟨W, hW⟩ : ∃ W, W = w4.alloc (.cells #[.string t, .int .i64 pl] 163 (0, 0)) := ⟨_, rfl⟩
      rw [← hW] at HB5 HC5 hk5
      have p0 : W.cell? ⟨w4.heap.size, 0, none⟩ = some (.string t) := hk5.cell 0 _ rfl
      have p1 : W.cell? ⟨w4.heap.size, 1, none⟩ = some (.int .i64 pl) := hk5.cell 1 _ rfl
      have hwl := hk5.lt
      clear hb4 hc4 hbs4 hbs5 HBS HC hN hk5
      by_cases g1 : (t.toList == []) = true
      · have hRe : R = ((0, 0), es', nv', nt', code') := by have := HRF.out; rw [if_pos g1] at this; exact this
        have HRE := hidden hRe
        clear hRe
        go_wp2_with fail
        rw [← hW, HRE.out]
        obtain ⟨j1, j2, j3, j4, j5⟩ := HJ.out
        exact bodyPost_ret (v := .tuple #[.int .i64 0, .int .i64 0]) (by simp [results, Tryz.results52, go_sem]) rfl ⟨rfl, ⟨_, _, HB5.out.sys, HB5.out.tab, j4, j5⟩, j1, HC5.out⟩
      have g1' : (t.toList == []) = false := by simpa using g1
      have HG1 := hidden g1
      clear g1
      by_cases g2 : (t.toList == [118, 97, 114, 105, 97, 98, 108, 101]) = true
      · have hr2 := HRF.out
        rw [if_neg HG1.out, if_pos g2] at hr2
        have HRV := hidden hr2
        clear hr2 HRF
        go_wp2_with fail
        rw [← hW]
        have hv := book_loadVariable HB5.out hbl (by omega) (by have := HJ.out.1.l; omega) HJ.out.1.v0 HJ.out.1.v1
        have hvi := HJ.out.1.var (s := s) (a := b)
        obtain ⟨m1, m2, m3, m4⟩ := nextF_le s (s.size - b) b hbl
        have hrv := HRV.out
        obtain ⟨V, hV⟩ : ∃ V, V = varP es' nv' s b := ⟨_, rfl⟩
        rw [← hV] at hv hvi hrv
        obtain ⟨⟨r, q⟩, es6, nv6⟩ := V
        refine hv.mono ?_
        rintro e w6 ⟨rfl, ⟨ev6, hb6, hl6⟩, hc6⟩
        simp only at hb6 hvi hrv ⊢
        obtain ⟨j1, j2, j3, j4, j5⟩ := HJ.out
        have hch := HC5.out.thru hc6 (fun k hk e => e.elim (fun e => by omega) (fun e => e.elim Or.inl (fun e => (j4 k e).elim (fun e => Or.inr (Or.inl e)) (fun e => by omega))))
        have hlc : Lc w ev ev6 := j4.trans (hl6.mono HC5.out.size)
        have HB6 := hidden hb6; have HVI := hidden hvi; have HRR := hidden hrv; have HCH := hidden hch; have HLC := hidden hlc; have HNM := hidden (And.intro m2 m3)
        clear hv hV hb6 hl6 hc6 hvi hrv hch hlc j1 j2 j3 j4 j5 m1 m2 m3 m4 HRV HB5 HC5 p0 p1 hW hwl
        by_cases h0 : r = 0
        · subst h0
          go_wp2_with fail
          go_roundw
          case rel =>
            have hrv := HRR.out
            rw [if_pos rfl] at hrv
            obtain ⟨j1, j2, j3, j4, j5⟩ := HJ.out
            have hlt := HMV.out g1'
            obtain ⟨m2, m3⟩ := HNM.out
            exact ⟨_, f', es6, nv6, nt', code', ev6, cv', HB6.out, hidden hrv, ⟨HVI.out, m3, by unfold nx; omega, HLC.out, j5⟩, HCH.out⟩
          case measure =>
            have hlt := HMV.out g1'
            obtain ⟨m2, m3⟩ := HNM.out
            obtain ⟨j1, j2, j3, j4, j5⟩ := HJ.out
            have e1 : atOf w6 rb = (nx s b).2.2 := by unfold atOf; rw [show w6.cell? ⟨rb, 1, none⟩ = some (.int .i64 ((nx s b).2.2 : Nat)) from HB6.out.rd.cell 1 _ rfl]; simp
            rw [e1, HAT.out]
            unfold nx
            omega
        · have h0' : (r == 0) = false := by simpa using h0
          have h0n : (r != 0) = true := by simpa using h0
          have HR0 := hidden h0
          clear h0
          have hRe : R = ((r, q), es6, nv6, nt', code') := by have := HRR.out; rw [if_neg HR0.out] at this; exact this
          have HRE := hidden hRe
          clear hRe
          go_wp2_with fail
          rw [HRE.out]
          exact bodyPost_ret (v := .tuple #[.int .i64 r, .int .i64 q]) (by simp [results, Tryz.results52, go_sem]) rfl ⟨rfl, ⟨_, _, HB6.out.sys, HB6.out.tab, HLC.out, HJ.out.2.2.2.2⟩, HVI.out, HCH.out⟩
      have g2' : (t.toList == [118, 97, 114, 105, 97, 98, 108, 101]) = false := by simpa using g2
      have HG2 := hidden g2
      clear g2
      by_cases g3 : (t.toList == [58]) = true
      · have hr2 := HRF.out
        rw [if_neg HG1.out, if_neg HG2.out, if_pos g3] at hr2
        have HRV := hidden hr2
        clear hr2 HRF
        go_wp2_with fail
        rw [← hW]
        have hv := book_loadWord HB5.out hbl (by omega) (by have := HJ.out.1.l; omega) HJ.out.1.w HJ.out.1.t0 (by have := HJ.out.1.t1; omega) (by have := HJ.out.1.t1; have := HJ.out.1.c; omega)
        have hvi := HJ.out.1.word (s := s) (a := b) hbl
        have hrv := HRV.out
        obtain ⟨V, hV⟩ : ∃ V, V = wordP es' nt' code' s b := ⟨_, rfl⟩
        rw [← hV] at hv hvi hrv
        obtain ⟨⟨r, q⟩, es6, nt6, code6, a6⟩ := V
        refine hv.mono ?_
        rintro e w6 ⟨rfl, ⟨ev6, cv6, b6, hb6, hs6, ha6, hl6, hl7⟩, hc6⟩
        simp only at hb6 hvi hrv ha6 ⊢
        obtain ⟨j1, j2, j3, j4, j5⟩ := HJ.out
        have hch := HC5.out.thru hc6 (fun k hk e => e.elim (fun e => by omega) (fun e => e.elim Or.inl (fun e => e.elim (fun e => (j4 k e).elim (fun e => Or.inr (Or.inl e)) (fun e => by omega)) (fun e => (j5 k e).elim (fun e => Or.inr (Or.inr e)) (fun e => by omega)))))
        have hlc : Lc w ev ev6 := j4.trans (hl6.mono HC5.out.size)
        have hld : Lc w cv cv6 := j5.trans (hl7.mono HC5.out.size)
        have HB6 := hidden hb6; have HVI := hidden hvi; have HRR := hidden hrv; have HCH := hidden hch; have HLC := hidden hlc; have HLD := hidden hld; have HA6 := hidden ha6; have HS6 := hidden hs6
        clear hv hV hb6 hl6 hl7 hc6 hvi hrv hch hlc hld ha6 hs6 j1 j2 j3 j4 j5 HRV HB5 HC5 p0 p1 hW hwl
        by_cases h0 : r = 0
        · subst h0
          go_wp2_with fail
          go_roundw
          case rel =>
            have hrv := HRR.out
            rw [if_pos rfl] at hrv
            obtain ⟨j1, j2, j3, j4, j5⟩ := HJ.out
            have hlt := HMV.out g1'
            have e6 := HA6.out rfl
            have hs6 := HS6.out
            have hge := HVI.out.2 rfl
            subst e6
            exact ⟨_, f', es6, nv', nt6, code6, ev6, cv6, HB6.out, hidden hrv, ⟨HVI.out.1, hs6, by omega, HLC.out, HLD.out⟩, HCH.out⟩
          case measure =>
            have hlt := HMV.out g1'
            obtain ⟨j1, j2, j3, j4, j5⟩ := HJ.out
            have e6 := HA6.out rfl
            have hs6 := HS6.out
            have hge := HVI.out.2 rfl
            have e1 : atOf w6 rb = b6 := by unfold atOf; rw [show w6.cell? ⟨rb, 1, none⟩ = some (.int .i64 (b6 : Nat)) from HB6.out.rd.cell 1 _ rfl]; simp
            rw [e1, HAT.out]
            omega
        · have h0' : (r == 0) = false := by simpa using h0
          have h0n : (r != 0) = true := by simpa using h0
          have HR0 := hidden h0
          clear h0
          have hRe : R = ((r, q), es6, nv', nt6, code6) := by have := HRR.out; rw [if_neg HR0.out] at this; exact this
          have HRE := hidden hRe
          clear hRe
          go_wp2_with fail
          rw [HRE.out]
          exact bodyPost_ret (v := .tuple #[.int .i64 r, .int .i64 q]) (by simp [results, Tryz.results52, go_sem]) rfl ⟨rfl, ⟨_, _, HB6.out.sys, HB6.out.tab, HLC.out, HLD.out⟩, HVI.out.1, HCH.out⟩
      have g3' : (t.toList == [58]) = false := by simpa using g3
      have HG3 := hidden g3
      clear g3
      have hRe : R = ((3, (pl : Int)), es', nv', nt', code') := by have := HRF.out; rw [if_neg HG1.out, if_neg HG2.out, if_neg HG3.out] at this; exact this
      have HRE := hidden hRe
      clear hRe
      go_wp2_with fail
      rw [← hW]
      go_quiet (fail)
      go_wp2_with fail
      rw [HRE.out, ← hW]
      have hbw : Below W.heap.size W (W.drewN nq) := ⟨rfl, rfl, rfl, Nat.le_refl _, fun _ _ => rfl⟩
      obtain ⟨j1, j2, j3, j4, j5⟩ := HJ.out
      exact bodyPost_ret (v := .tuple #[.int .i64 3, .int .i64 pl]) (by simp [results, Tryz.results52, go_sem]) rfl ⟨rfl, ⟨_, _, HB5.out.sys.below hbw, HB5.out.tab.below hbw, j4, j5⟩, j1, HC5.out.trans (Chg.ofBelow hbw)⟩

set_option maxRecDepth 100000 in
set_option maxHeartbeats 4000000 in
theorem book_loadOnce {w : World} {bb : Nat} {ev cv : Value} {es : List PE} {nv nt : Int} {code : List Int} (s : ByteArray) (h : PSys w bb ev cv es nv nt code) (ht : Tab w) (hs : s.size ≤ 200000000000000) (hi : LInv es nv nt code) (g1 : ((nx s 0).1.toList == []) = false) (g2 : ((nx s 0).1.toList == [118, 97, 114, 105, 97, 98, 108, 101]) = false)
    (hw : ((nx s 0).1.toList == [58]) = true → (wordP es nt code s (nx s 0).2.2).1.1 ≠ 0 ∧ ∀ (W : World) (rb : Nat), BS W bb rb ev cv es nv nt code s (nx s 0).2.2 → Calls Tryz.prog 80 #[.pointer (some ⟨bb, 0, none⟩), .pointer (some ⟨rb, 0, none⟩)] W (WordPost W bb rb ev cv nv s (wordP es nt code s (nx s 0).2.2))) :
    Calls Tryz.prog 52 #[.pointer (some ⟨bb, 0, none⟩), .string s] w (LoadPost w bb ev cv (loadR s es nv nt code)) := by
  obtain ⟨R, hR⟩ : ∃ R, R = loadR s es nv nt code := ⟨_, rfl⟩
  rw [← hR]
  unfold loadR at hR
  have HB := hidden (tok_broken s w (by omega))
  have HP := hidden h; have HT := hidden ht; have HI := hidden hi
  have HG := hidden (And.intro g1 (And.intro g2 hw))
  clear h ht hi g1 g2 hw
  cases hbad : badF s s.size 0 with
  | some k =>
    rw [hbad] at hR
    simp only at hR
    rw [hbad] at HB
    subst hR
    clear hbad
    go_enter Tryz.func52, Tryz.ntmps52
    go_wp2_with fail
    refine HB.out.mono ?_
    rintro e w1 ⟨rfl, hb1⟩
    simp only [badRes]
    go_wp2_with fail
    exact bodyPost_ret (v := .tuple #[.int .i64 2, .int .i64 k]) (by simp [results, Tryz.results52, go_sem]) rfl ⟨rfl, ⟨_, _, HP.out.below hb1, HT.out.below hb1, Lc.refl _ _, Lc.refl _ _⟩, HI.out, Chg.ofBelow hb1⟩
  | none =>
    rw [hbad] at hR
    simp only at hR
    rw [hbad] at HB
    have HR := hidden hR
    clear hbad hR
    go_enter Tryz.func52, Tryz.ntmps52
    go_wp2_with fail
    refine HB.out.mono ?_
    rintro e w1 ⟨rfl, hb1⟩
    simp only [badRes]
    have H2 := hidden (rd_new s w1)
    have HB1 := hidden hb1
    clear HB hb1
    go_wp2_with fail
    refine H2.out.mono ?_
    rintro e w2 ⟨rfl, hb2, hc2⟩
    obtain ⟨rb, hrb⟩ : ∃ rb, rb = w1.heap.size := ⟨_, rfl⟩
    rw [← hrb] at hb2 ⊢
    have hrw : w.heap.size ≤ rb := by rw [hrb]; exact HB1.out.size
    have hru : 3 ≤ rb := by have := HT.out.lt; omega
    have HBS0 := hidden (BS.mk ((HP.out.below HB1.out).below hc2) ((HT.out.below HB1.out).below hc2) hb2 hru)
    have HC0 := hidden ((Chg.ofBelow HB1.out : Chg (fun k => k = bb ∨ ev.ownBlock = some k ∨ cv.ownBlock = some k) w w1).trans (Chg.ofBelow hc2))
    clear H2 hb2 hc2 hrb HP HT
    go_wp2_with fail
    go_loopw [9] (fun _ wr => BS wr bb rb ev cv es nv nt code s 0 ∧ Chg (fun k => k = bb ∨ ev.ownBlock = some k ∨ cv.ownBlock = some k) w wr) (fun _ _ => 0)
    case atStart => exact ⟨HBS0.out, HC0.out⟩
    case round =>
      clear HBS0 HC0 HB1
      obtain ⟨hbs, hc⟩ := hrel
      obtain ⟨m1, m2, m3, m4⟩ := nextF_le s (s.size - 0) 0 (Nat.zero_le _)
      have hN := hidden (rd_next rb s 0 wr (Nat.zero_le _) (by omega) hbs.rd)
      obtain ⟨x, hx⟩ : ∃ x, x = nextF s (s.size - 0) 0 := ⟨_, rfl⟩
      have hxx : nx s 0 = x := hx.symm
      rw [← hx] at hN m1 m2 m3 m4
      have hg := HG.out
      rw [hxx] at hg
      obtain ⟨t, pl, b⟩ := x
      simp only at hN m1 m2 m3 m4 hg
      obtain ⟨g1', g2', hw⟩ := hg
      have hrr := HR.out
      rw [loadP, hxx] at hrr
      simp only at hrr
      have HBS := hidden hbs; have HRF := hidden hrr; have HC := hidden hc; have HW := hidden hw
      have HM := hidden (And.intro m1 (And.intro m2 (And.intro m3 m4)))
      have HJ := hidden (And.intro HI.out (And.intro (Lc.refl w ev) (Lc.refl w cv)))
      clear hbs hrr hx hxx m1 m2 m3 m4 hc hw HR HG HI
      go_wp2_with fail
      refine hN.out.mono ?_
      rintro e w4 ⟨rfl, hb4, hc4⟩
      have hbs4 := HBS.out.next hb4 hc4
      have hbs5 := hbs4.below ((Below.refl _ _).alloc (Nat.le_refl _) (.cells #[.string t, .int .i64 pl] 163 (0, 0)))
      have HB5 := hidden hbs5
      have HC5 := hidden ((HC.out.thru hc4 (fun k hk e => by omega)).alloc (.cells #[.string t, .int .i64 pl] 163 (0, 0)))
      have hbl : b ≤ s.size := HM.out.2.2.1
      have hk5 := blk_new w4 #[.string t, .int .i64 pl] 163
      obtain ⟨W, hW⟩ : ∃ W, W = w4.alloc (.cells #[.string t, .int .i64 pl] 163 (0, 0)) := ⟨_, rfl⟩
      rw [← hW] at HB5 HC5 hk5
      have p0 : W.cell? ⟨w4.heap.size, 0, none⟩ = some (.string t) := hk5.cell 0 _ rfl
      have p1 : W.cell? ⟨w4.heap.size, 1, none⟩ = some (.int .i64 pl) := hk5.cell 1 _ rfl
      have hwl := hk5.lt
      clear hb4 hc4 hbs4 hbs5 HBS HC hN hk5
      by_cases g3 : (t.toList == [58]) = true
      · have hr2 := HRF.out
        rw [if_neg (by rw [g1']; exact Bool.false_ne_true), if_neg (by rw [g2']; exact Bool.false_ne_true), if_pos g3] at hr2
        have HRV := hidden hr2
        clear hr2 HRF
        go_wp2_with fail
        rw [← hW]
        obtain ⟨hne, hww⟩ := HW.out g3
        have hv := hww _ _ HB5.out
        have hvi := HJ.out.1.word (s := s) (a := b) hbl
        clear hww
        have hrv := HRV.out
        obtain ⟨V, hV⟩ : ∃ V, V = wordP es nt code s b := ⟨_, rfl⟩
        rw [← hV] at hv hvi hrv hne
        obtain ⟨⟨r, q⟩, es6, nt6, code6, a6⟩ := V
        refine hv.mono ?_
        rintro e w6 ⟨rfl, ⟨ev6, cv6, b6, hb6, hs6, ha6, hl6, hl7⟩, hc6⟩
        simp only at hb6 hvi hrv ha6 hne ⊢
        obtain ⟨j1, j4, j5⟩ := HJ.out
        have hch := HC5.out.thru hc6 (fun k hk e => e.elim (fun e => by omega) (fun e => e.elim Or.inl (fun e => e.elim (fun e => (j4 k e).elim (fun e => Or.inr (Or.inl e)) (fun e => by omega)) (fun e => (j5 k e).elim (fun e => Or.inr (Or.inr e)) (fun e => by omega)))))
        have hlc : Lc w ev ev6 := j4.trans (hl6.mono HC5.out.size)
        have hld : Lc w cv cv6 := j5.trans (hl7.mono HC5.out.size)
        have HB6 := hidden hb6; have HVI := hidden hvi; have HRR := hidden hrv; have HCH := hidden hch; have HLC := hidden hlc; have HLD := hidden hld; have HA6 := hidden ha6; have HS6 := hidden hs6
        clear hv hV hb6 hl6 hl7 hc6 hvi hrv hch hlc hld ha6 hs6 j1 j4 j5 HRV HB5 HC5 p0 p1 hW hwl
        have h0 : ¬ r = 0 := hne
        clear hne
        have h0' : (r == 0) = false := by simpa using h0
        have h0n : (r != 0) = true := by simpa using h0
        have HR0 := hidden h0
        clear h0
        have hRe : R = ((r, q), es6, nv, nt6, code6) := by have := HRR.out; rw [if_neg HR0.out] at this; exact this
        have HRE := hidden hRe
        clear hRe
        go_wp2_with fail
        rw [HRE.out]
        exact bodyPost_ret (v := .tuple #[.int .i64 r, .int .i64 q]) (by simp [results, Tryz.results52, go_sem]) rfl ⟨rfl, ⟨_, _, HB6.out.sys, HB6.out.tab, HLC.out, HLD.out⟩, HVI.out.1, HCH.out⟩
      have g3' : (t.toList == [58]) = false := by simpa using g3
      have HG3 := hidden g3
      clear g3
      have hRe : R = ((3, (pl : Int)), es, nv, nt, code) := by have := HRF.out; rw [if_neg (by rw [g1']; exact Bool.false_ne_true), if_neg (by rw [g2']; exact Bool.false_ne_true), if_neg HG3.out] at this; exact this
      have HRE := hidden hRe
      clear hRe
      go_wp2_with fail
      rw [← hW]
      go_quiet (fail)
      go_wp2_with fail
      rw [HRE.out, ← hW]
      have hbw : Below W.heap.size W (W.drewN nq) := ⟨rfl, rfl, rfl, Nat.le_refl _, fun _ _ => rfl⟩
      obtain ⟨j1, j4, j5⟩ := HJ.out
      exact bodyPost_ret (v := .tuple #[.int .i64 3, .int .i64 pl]) (by simp [results, Tryz.results52, go_sem]) rfl ⟨rfl, ⟨_, _, HB5.out.sys.below hbw, HB5.out.tab.below hbw, j4, j5⟩, j1, HC5.out.trans (Chg.ofBelow hbw)⟩

end Go.Proofs.YtcphhbofjkenaaaGreatDoor

namespace Go.Proofs.YtcphhbofjkenaaaGreatDoor
open Go Go.RowKit
set_option linter.unusedVariables false
set_option linter.unusedSimpArgs false

theorem LInv.zero : LInv [] 0 0 [] := ⟨by simp, by simp, by simp, by omega, by omega, by omega, by omega, by simp⟩

theorem forth_new (w : World) (ht : Tab w) :
    Calls Tryz.prog 23 #[] w fun e w' => ∃ bb, w.heap.size ≤ bb ∧ e = .returned (.pointer (some ⟨bb, 0, none⟩)) ∧ PSys w' bb (.slice none 0 0) (.slice none 0 0) [] 0 0 [] ∧ Below w.heap.size w w' := by
  have HT := hidden ht
  clear ht
  go_enter Tryz.func23, Tryz.ntmps23
  go_wp2_with fail
  exact bodyPost_ret (v := .pointer (some ⟨w.heap.size, 0, none⟩)) (by simp [results, Tryz.results23, go_sem]) rfl ⟨_, Nat.le_refl _, rfl, ⟨blk_new w _ _, ⟨rfl, Or.inl ⟨rfl, rfl⟩⟩, ⟨rfl, Or.inl ⟨rfl, rfl⟩⟩, HT.out.lt⟩, (Below.refl _ _).alloc (Nat.le_refl _) _⟩

theorem forth_book (bb : Nat) (w : World) : Calls Tryz.prog 41 #[.pointer (some ⟨bb, 0, none⟩)] w fun e w' => e = .returned (.pointer (some ⟨bb, 0, none⟩)) ∧ w' = w := by
  go_enter Tryz.func41, Tryz.ntmps41
  go_wp2_with fail
  go_ret
  exact ⟨rfl, rfl⟩

theorem forth_loadB {w : World} {bb : Nat} {ev cv : Value} {es : List PE} {nv nt : Int} {code : List Int} (s : ByteArray) (h : PSys w bb ev cv es nv nt code) (H0 : Calls Tryz.prog 52 #[.pointer (some ⟨bb, 0, none⟩), .string s] w (LoadPost w bb ev cv (loadR s es nv nt code))) :
    Calls Tryz.prog 24 #[.pointer (some ⟨bb, 0, none⟩), .string s] w (LoadPost w bb ev cv (loadR s es nv nt code)) := by
  have H := hidden H0
  obtain ⟨R, hR⟩ : ∃ R, R = loadR s es nv nt code := ⟨_, rfl⟩
  rw [← hR] at H ⊢
  have hb := h.blk.lt
  obtain ⟨⟨r, q⟩, es', nv', nt', code'⟩ := R
  clear h H0 hR
  go_enter Tryz.func24, Tryz.ntmps24
  go_wp2_with fail
  refine (forth_book bb _).mono ?_
  rintro e w' ⟨rfl, rfl⟩
  go_wp2_with fail
  refine H.out.mono ?_
  rintro e w' ⟨rfl, h2⟩
  have H2 := hidden h2
  clear H h2
  go_wp2_with fail
  exact bodyPost_ret (v := .tuple #[.int .i64 r, .int .i64 q]) (by simp [results, Tryz.results24, go_sem]) rfl ⟨rfl, H2.out⟩

theorem forth_load {w : World} {bb : Nat} {ev cv : Value} {es : List PE} {nv nt : Int} {code : List Int} (s : ByteArray) (h : PSys w bb ev cv es nv nt code) (ht : Tab w) (hs : s.size ≤ 1100000) (hi : LInv es nv nt code) :
    Calls Tryz.prog 24 #[.pointer (some ⟨bb, 0, none⟩), .string s] w (LoadPost w bb ev cv (loadR s es nv nt code)) := forth_loadB s h (book_load s h ht hs hi)

theorem forth_find {w : World} {bb : Nat} {ev cv : Value} {es : List PE} {nv nt : Int} {code : List Int} (s : ByteArray) (h : PSys w bb ev cv es nv nt code) (hl : es.length ≤ 1000) :
    Calls Tryz.prog 18 #[.pointer (some ⟨bb, 0, none⟩), .string s] w fun e w' => e = .returned (findRes (lastP es s es.length)) ∧ Below w.heap.size w w' := by
  have HL := hidden (fun w' hb => book_Find s (h.below (w' := w') hb) hl)
  have hb := h.blk.lt
  obtain ⟨R, hR⟩ : ∃ R, R = lastP es s es.length := ⟨_, rfl⟩
  rw [← hR] at HL ⊢
  clear h hR
  obtain ⟨a1, a2, a3, a4, a5, f, hl1⟩ : ∃ (a1 a2 a3 a4 : Int) (a5 : Bool) (f : Int), findRes R = .tuple #[.agg #[.int .i64 a1, .int .i64 a2, .int .i64 a3, .int .i64 a4, .bool a5], .int .i64 f] := by
    rcases R with _ | ⟨n, v, p, i⟩
    · exact ⟨_, _, _, _, _, _, rfl⟩
    · cases v
      · exact ⟨_, _, _, _, _, _, rfl⟩
      · exact ⟨_, _, _, _, _, _, rfl⟩
  rw [hl1] at HL ⊢
  clear hl1
  go_enter Tryz.func18, Tryz.ntmps18
  go_wp2_with fail
  have hb0 : Below w.heap.size w (w.alloc (.cells zero5 36 (0, 0))) := (Below.refl _ _).alloc (Nat.le_refl _) _
  have hk0 := blk_new w zero5 36
  refine (forth_book bb _).mono ?_
  rintro e w' ⟨rfl, rfl⟩
  go_wp2_with fail
  refine (HL.out _ hb0).mono ?_
  rintro e w1 ⟨rfl, hb1⟩
  have hk1 := hk0.sub hb1 (by simp)
  have hlt1 := hk1.lt
  have hbw : Below w.heap.size w w1 := hb0.trans (hb1.mono (by simp))
  have HBW := hidden hbw
  have HK1 := hidden hk1
  clear hb0 hk0 hb1 hk1 hbw HL
  obtain ⟨g0, g1, g2, g3, g4⟩ := HK1.out.free
  obtain ⟨z0, z1, z2, z3, z4⟩ := HK1.out.zero
  go_wp2_with fail
  refine bodyPost_ret (v := .tuple #[.agg #[.int .i64 a1, .int .i64 a2, .int .i64 a3, .int .i64 a4, .bool a5], .int .i64 f]) (by simp [results, Tryz.results18, go_sem, z0, z1, z2, z3, z4, hlt1]) rfl ⟨rfl, ?_⟩
  exact ((((HBW.out.setCell (Nat.le_refl _) _).setCell (Nat.le_refl _) _).setCell (Nat.le_refl _) _).setCell (Nat.le_refl _) _).setCell (Nat.le_refl _) _

end Go.Proofs.YtcphhbofjkenaaaGreatDoor

namespace Go.Proofs.YtcphhbofjkenaaaGreatDoor
open Go Go.RowKit
set_option linter.unusedVariables false
set_option linter.unusedSimpArgs false

structure Alike (es : List PE) (ws : List RW) : Prop where
  names : es.map PE.name = ws.map RW.name
  use : ∀ (k : Nat) (x : PE) (y : RW), es[k]? = some x → ws[k]? = some y → (x.var = true → y.var = x.place ∧ 0 ≤ y.var) ∧ (x.var = false → y.var = -1 ∧ x.inf = y.inf ∧ y.inf.Nn ∧ 1 ≤ y.inf.steps ∧ y.inf.steps ≤ 1000000000)

theorem Alike.len {es : List PE} {ws : List RW} (h : Alike es ws) : es.length = ws.length := by
  have := congrArg List.length h.names
  simpa using this

structure BR (b : PB) (l : List AI) (loops : Int) : Prop where
  does : b.does = infL l
  nn : (infL l).Nn
  ido : b.inDo = decide (0 < loops)
  num : NumR b l

structure Same (b b' : PB) : Prop where
  op : b'.opener = b.opener
  ido : b'.inDo = b.inDo
  hole : b'.hole = b.hole
  times : b'.times = b.times
  other : b'.other = b.other
theorem Same.refl (b : PB) : Same b b := ⟨rfl, rfl, rfl, rfl, rfl⟩
theorem Same.trans {a b c : PB} (h : Same a b) (h' : Same b c) : Same a c := ⟨h'.op.trans h.op, h'.ido.trans h.ido, h'.hole.trans h.hole, h'.times.trans h.times, h'.other.trans h.other⟩
theorem Same.add (b : PB) (i : Inf) : Same b (b.add i) := ⟨rfl, rfl, rfl, rfl, rfl⟩

def endsOf (o : Int) : List ByteArray := if o = 29 then [tElse, tThen] else if o = 30 then [tThen] else if o = 31 then [tLoop] else [tSemi]
def Opn (b : PB) : Prop := b.opener = 29 ∨ b.opener = 30 ∨ b.opener = 31 ∨ b.opener = 34
theorem Opn.none {b : PB} (h : Opn b) : inL ⟨#[]⟩ (endsOf b.opener) = false := by
  rcases h with h | h | h | h <;> rw [h]
  · exact ends1
  · exact ends2
  · exact ends3
  · exact ends4

theorem BR.snoc {b : PB} {l : List AI} {loops : Int} (h : BR b l loops) (i : Inf) (t : IT) (hi : i.Nn) : BR (b.add i) (l ++ [⟨none, i, t⟩]) loops :=
  ⟨by rw [infL_snoc]; simp [PB.add, h.does], by rw [infL_snoc]; exact h.nn.then hi, h.ido, NumR.none rfl⟩

theorem defP_err1 {es : List PE} {nt : Int} {s : ByteArray} {g : Nat} {tk : Int} {dc : List Int} {b : PB} {r : List PB} {kn : Inf} {a : Nat} {E : Int} (h : (stepP es nt (tk + 1) dc (b :: r) kn (nx s a).1).1 = E) (hE : E ≠ 0) : defP es nt s (g + 1) tk dc (b :: r) kn a = .inr (E, ((nx s a).2.1 : Int)) := by
  rw [defP, h, if_neg hE]
theorem defP_ok1 {es : List PE} {nt : Int} {s : ByteArray} {g : Nat} {tk : Int} {dc dc' : List Int} {b : PB} {r st' : List PB} {kn kn' : Inf} {a : Nat} (h : stepP es nt (tk + 1) dc (b :: r) kn (nx s a).1 = (0, dc', st', kn')) : defP es nt s (g + 1) tk dc (b :: r) kn a = defP es nt s g (tk + 1) dc' st' kn' (nx s a).2.2 := by
  rw [defP, h]; simp

theorem stray_iff (t : ByteArray) : inL t stray = true ↔ (t.toList = [] ∨ t.toList = [101, 108, 115, 101] ∨ t.toList = [116, 104, 101, 110] ∨ t.toList = [108, 111, 111, 112] ∨ t.toList = [59] ∨ t.toList = [58] ∨ t.toList = [118, 97, 114, 105, 97, 98, 108, 101]) := by
  unfold inL stray tElse tThen tLoop tSemi tColon tVar
  simp only [List.any_cons, List.any_nil, ba_list, Bool.or_false, Bool.or_eq_true, beq_iff_eq]
  constructor
  · rintro (h | h | h | h | h | h | h) <;> simp [← h]
  · rintro (h | h | h | h | h | h | h) <;> simp [h]
theorem stray_cases {t : ByteArray} (h : inL t stray = true) : t.toList = [] ∨ t.toList = [101, 108, 115, 101] ∨ t.toList = [116, 104, 101, 110] ∨ t.toList = [108, 111, 111, 112] ∨ t.toList = [59] ∨ t.toList = [58] ∨ t.toList = [118, 97, 114, 105, 97, 98, 108, 101] := (stray_iff t).1 h
theorem stray_not {t : ByteArray} (h : inL t stray = false) : t.toList ≠ [] ∧ t.toList ≠ [101, 108, 115, 101] ∧ t.toList ≠ [116, 104, 101, 110] ∧ t.toList ≠ [108, 111, 111, 112] ∧ t.toList ≠ [59] ∧ t.toList ≠ [58] ∧ t.toList ≠ [118, 97, 114, 105, 97, 98, 108, 101] := by
  have h2 : ¬ inL t stray = true := by simp [h]
  rw [stray_iff] at h2
  simp only [not_or] at h2
  exact h2
theorem end_two {t : ByteArray} (h : inL t [tElse, tThen] = true) : t.toList = [101, 108, 115, 101] ∨ t.toList = [116, 104, 101, 110] := by
  unfold inL tElse tThen at h
  simp only [List.any_cons, List.any_nil, ba_list, Bool.or_false, Bool.or_eq_true, beq_iff_eq] at h
  rcases h with h | h <;> simp [← h]
theorem end_then {t : ByteArray} (h : inL t [tThen] = true) : t.toList = [116, 104, 101, 110] := by
  unfold inL tThen at h
  simp only [List.any_cons, List.any_nil, ba_list, Bool.or_false, Bool.or_eq_true, beq_iff_eq] at h
  exact h.symm
theorem end_loop {t : ByteArray} (h : inL t [tLoop] = true) : t.toList = [108, 111, 111, 112] := by
  unfold inL tLoop at h
  simp only [List.any_cons, List.any_nil, ba_list, Bool.or_false, Bool.or_eq_true, beq_iff_eq] at h
  exact h.symm
theorem end_semi {t : ByteArray} (h : inL t [tSemi] = true) : t.toList = [59] := by
  unfold inL tSemi at h
  simp only [List.any_cons, List.any_nil, ba_list, Bool.or_false, Bool.or_eq_true, beq_iff_eq] at h
  exact h.symm

theorem step_stray (es : List PE) (nt tk : Int) (dc : List Int) {b : PB} (r : List PB) (kn : Inf) {t : ByteArray} (hb : Opn b) (h : inL t stray = true) (hn : inL t (endsOf b.opener) = false) : (stepP es nt tk dc (b :: r) kn t).1 = 5 := by
  rcases stray_cases h with e | e | e | e | e | e | e
  · simp [stepP, e]
  · have : b.opener ≠ 29 := by rintro h1; rw [h1] at hn; simp [endsOf, inL, tElse, ba_list, e] at hn
    simp [stepP, e, this]
  · have : ¬ (b.opener = 29 ∨ b.opener = 30) := by
      rintro (h1 | h1) <;> rw [h1] at hn <;> simp [endsOf, inL, tElse, tThen, ba_list, e] at hn
    simp [stepP, e, this]
  · have : b.opener ≠ 31 := by rintro h1; rw [h1] at hn; simp [endsOf, inL, tLoop, ba_list, e] at hn
    simp [stepP, e, this]
  · have : b.opener ≠ 34 := by rintro h1; rw [h1] at hn; simp [endsOf, inL, tSemi, ba_list, e] at hn
    simp [stepP, e, this]
  · simp [stepP, e]
  · simp [stepP, e]

theorem if_num {t : ByteArray} (h : t.toList = [105, 102] ∨ t.toList = [100, 111]) : (numS t).2 = false := by
  rcases h with h | h
  · have : t = ⟨#[105, 102]⟩ := (ext_list t [105, 102]).1 (by simp [h])
    subst this; decide +kernel
  · have : t = ⟨#[100, 111]⟩ := (ext_list t [100, 111]).1 (by simp [h])
    subst this; decide +kernel

theorem step_num (es : List PE) (nt tk : Int) (dc : List Int) (b : PB) (r : List PB) (kn : Inf) {t : ByteArray} (h : inL t stray = false) (hn : (numS t).2 = true) :
    stepP es nt tk dc (b :: r) kn t = (0, dc ++ [28, (numS t).1], { b.add (opInf 28) with numbers := min (b.numbers + 1) 2, a0 := b.a1, a1 := (numS t).1 } :: r, kn) := by
  obtain ⟨h1, h2, h3, h4, h5, h6, h7⟩ := stray_not h
  have n1 : t.toList ≠ [105, 102] := fun e => by rw [if_num (Or.inl e)] at hn; cases hn
  have n2 : t.toList ≠ [100, 111] := fun e => by rw [if_num (Or.inr e)] at hn; cases hn
  obtain ⟨q1, q2⟩ := num_eq t
  rw [hn] at q1
  rw [← q2 q1]
  simp [stepP, h1, h2, h3, h4, h5, h6, h7, n1, n2, q1]

theorem step_word (es : List PE) (nt tk : Int) (dc : List Int) (b : PB) (r : List PB) (kn : Inf) {t : ByteArray} (h : inL t stray = false) (hn : ¬ (numS t).2 = true) (n1 : ¬ (t.toList == [105, 102]) = true) (n2 : ¬ (t.toList == [100, 111]) = true) :
    stepP es nt tk dc (b :: r) kn t = stepW es dc b r kn t := by
  obtain ⟨h1, h2, h3, h4, h5, h6, h7⟩ := stray_not h
  obtain ⟨q1, q2⟩ := num_eq t
  have hn' : (numP t).2 = false := by rw [q1]; simpa using hn
  simp only [beq_iff_eq] at n1 n2
  simp [stepP, h1, h2, h3, h4, h5, h6, h7, n1, n2, hn']

theorem word_eq {es : List PE} {ws : List RW} (hA : Alike es ws) (dc : List Int) {b : PB} (r : List PB) (kn : Inf) (t : ByteArray) {loops : Int} (hl : 0 ≤ loops) (hb : b.inDo = decide (0 < loops)) :
    (wordE ws t loops = 0 ∧ (wordI ws t).Nn ∧ ∃ dc', stepW es dc b r kn t = (0, dc', b.add (wordI ws t) :: r, kn) ∧ dc.length ≤ dc'.length ∧ (∀ i, i < dc.length → dc'[i]? = dc[i]?) ∧ CItem es dc' (decide (0 < loops)) (wordT ws t) dc.length dc'.length) ∨ (wordE ws t loops ≠ 0 ∧ (stepW es dc b r kn t).1 = wordE ws t loops) := by
  unfold stepW wordE wordI
  rw [last_findW hA.names t]
  by_cases hf : 0 ≤ findW ws t
  · left
    have hlt : findW ws t < ws.length := (lastK_lt (nameAt ws) t ws.length).1
    have hk : (findW ws t).toNat < ws.length := by omega
    have hy : ws[(findW ws t).toNat]? = some ws[(findW ws t).toNat] := List.getElem?_eq_getElem hk
    have hk' : (findW ws t).toNat < es.length := by rw [hA.len]; exact hk
    have hx : es[(findW ws t).toNat]? = some es[(findW ws t).toNat] := List.getElem?_eq_getElem hk'
    have hu := hA.use _ _ _ hx hy
    rw [if_pos hf, if_pos hf, if_pos hf, hy]
    have hg : es.getD (findW ws t).toNat PE.zero = es[(findW ws t).toNat] := by simp [hk']
    simp only [hg]
    have hx' := hx
    generalize es[(findW ws t).toNat] = x at hu hx'
    generalize ws[(findW ws t).toNat] = y at hu
    have key : x.use = ownInf y ∧ (ownInf y).Nn := by
      unfold PE.use ownInf
      cases hv : x.var with
      | true =>
        have := (hu.1 hv).2
        rw [if_pos rfl, if_pos this, op_some.1]
        exact ⟨rfl, Inf.Nn.plain (by omega) (by omega)⟩
      | false =>
        obtain ⟨u1, u2, u3, _⟩ := hu.2 hv
        rw [if_neg (by simp), if_neg (by omega), u2, op_none.2.2.1]
        exact ⟨one_then u3, u3.more⟩
    refine ⟨by trivial, key.2, _, by rw [key.1], by simp, fun i hi => List.getElem?_append_left hi, ?_⟩
    unfold wordT PE.op
    rw [if_pos hf]
    have g1 : ∀ o : Int, (dc ++ [o, x.place])[dc.length]? = some o := fun o => by simp
    have g2 : ∀ o : Int, (dc ++ [o, x.place])[dc.length + 1]? = some x.place := fun o => by rw [List.getElem?_append_right (by omega)]; simp
    rw [show (dc ++ [if x.var = true then 28 else 33, x.place]).length = dc.length + 2 by simp]
    cases hv : x.var with
    | true => exact .var _ _ x _ hx' hv (g1 _) (g2 _)
    | false => exact .own _ _ x _ hx' hv (g1 _) (g2 _)
  · rw [if_neg hf, if_neg hf, if_neg hf]
    cases ho : opFind t with
    | none =>
      right
      rw [there_none ho]
      exact ⟨by simp, by simp⟩
    | some k =>
      obtain ⟨e1, e2, e3⟩ := there_some ho
      have e4 := there_inf ho
      have hb2 := thereS_bd t
      simp only
      by_cases h5 : k = 27 ∧ b.inDo = false
      · right
        have hl0 : loops = 0 := by
          have := h5.2; rw [hb] at this; simp at this; omega
        have hi : (t.toList == [105]) = true := by simpa using e3.2 h5.1
        rw [e1]
        simp only [Bool.true_eq_false, if_false]
        rw [if_pos ⟨hi, hl0⟩, if_pos h5]
        exact ⟨by decide, rfl⟩
      · left
        have hno : ¬ ((t.toList == [105]) = true ∧ loops = 0) := by
          rintro ⟨h1, h2⟩
          exact h5 ⟨e3.1 (by simpa using h1), by rw [hb, h2]; rfl⟩
        rw [if_neg h5]
        have h22 : (thereS t).2.2 = true := by rw [e1]
        rw [h22]
        simp only [Bool.true_eq_false, if_false]
        rw [if_neg hno]
        refine ⟨rfl, Inf.Nn.plain hb2.1 hb2.2.2.1, _, by rw [e4], by simp, fun i hi => List.getElem?_append_left hi, ?_⟩
        unfold wordT
        rw [if_neg hf, show (dc ++ [(k : Int)]).length = dc.length + 1 by simp]
        refine .op _ t k _ ho (by simp) (fun hk => ?_)
        rw [← hb]
        cases hd : b.inDo with
        | true => rfl
        | false => exact absurd ⟨hk, hd⟩ h5

def Outc (es : List PE) (nt : Int) (s : ByteArray) (toks : List Tk) (ends : List ByteArray) (loops : Int) (I g : Nat) (tk : Int) (dc : List Int) (b : PB) (r : List PB) (kn : Inf) (a : Nat) (acc : List AI) : PR → Prop
  | .inr E => defP es nt s g tk dc (b :: r) kn a = .inr E
  | .inl (l, t, I') => I < I' ∧ I' ≤ toks.length ∧ inL t ends = true ∧ t = tokS toks (I' - 1) ∧ ∃ g' dc' b' a', defP es nt s g tk dc (b :: r) kn a = defP es nt s g' (tk + ((I' - 1 - I : Nat) : Int)) dc' (b' :: r) kn a' ∧ toks.length - (I' - 1) + 2 ≤ g' ∧ At s toks (I' - 1) a' ∧ Same b b' ∧ BR b' l loops ∧ ∀ p, CO es dc p loops acc → CO es dc' p loops l ∧ ∀ i, i < p → dc'[i]? = dc[i]?

theorem Outc.step {es : List PE} {nt : Int} {s : ByteArray} {toks : List Tk} {ends : List ByteArray} {loops : Int} {I J g g1 : Nat} {tk tk1 : Int} {dc dc1 : List Int} {b b1 : PB} {r : List PB} {kn : Inf} {a a1 : Nat} {acc acc1 : List AI} {R : PR}
    (h : Outc es nt s toks ends loops J g1 tk1 dc1 b1 r kn a1 acc1 R) (h1 : defP es nt s g tk dc (b :: r) kn a = defP es nt s g1 tk1 dc1 (b1 :: r) kn a1) (hIJ : I < J) (htk : tk1 = tk + ((J - I : Nat) : Int)) (hs : Same b b1) (hco : ∀ p, CO es dc p loops acc → CO es dc1 p loops acc1 ∧ ∀ i, i < p → dc1[i]? = dc[i]?) :
    Outc es nt s toks ends loops I g tk dc b r kn a acc R := by
  match R, h with
  | .inr E, h => exact h1.trans h
  | .inl (l, t, I'), h =>
    obtain ⟨c1, c2, c3, c4, g', dc', b', a', c5, c6, c7, c8, c9, c10⟩ := h
    refine ⟨by omega, c2, c3, c4, g', dc', b', a', ?_, c6, c7, hs.trans c8, c9, fun p hp => ?_⟩
    rotate_left
    · obtain ⟨q1, q2⟩ := hco p hp
      obtain ⟨q3, q4⟩ := c10 p q1
      exact ⟨q3, fun i hi => (q4 i hi).trans (q2 i hi)⟩
    rw [h1, c5, htk]
    congr 1
    omega

theorem CO.nil' (es : List PE) {dc : List Int} (p : Nat) (loops : Int) (h : p = dc.length) : CO es dc p loops [] := by subst h; exact CO.nil es dc loops

theorem set_len (l : List Int) (i : Nat) (x : Int) : (l.set i x).length = l.length := by simp
theorem co_then {es : List PE} {dc dc1 : List Int} {p : Nat} {loops : Int} {acc la : List AI} {hole : Int} {i : Inf} (hp : CO es dc p loops acc) (hh : hole = (PB.opened { PB.zero with opener := 29 } PB.zero (dc.length + 2)).hole)
    (h1 : CO es dc1 (dc.length + 2) loops la ∧ ∀ i, i < dc.length + 2 → dc1[i]? = (dc ++ [29, 0])[i]?) : CO es (dc1.set hole.toNat dc1.length) p loops (acc ++ [⟨none, i, .iff (trees la)⟩]) ∧ ∀ i, i < p → (dc1.set hole.toNat dc1.length)[i]? = dc[i]? := by
  obtain ⟨⟨h2, h3⟩, h4⟩ := h1
  have hho : hole.toNat = dc.length + 1 := by rw [hh]; simp [PB.opened]; omega
  rw [hho]
  have e1 : ∀ i, i ≠ dc.length + 1 → (dc1.set (dc.length + 1) dc1.length)[i]? = dc1[i]? := fun i hi => by rw [List.getElem?_set_ne (by omega)]
  have e2 : ∀ i, i < dc.length → (dc1.set (dc.length + 1) dc1.length)[i]? = dc[i]? := fun i hi => by
    rw [e1 i (by omega), h4 i (by omega), List.getElem?_append_left hi]
  refine hp.snoc (by rw [set_len]; omega) e2 ?_
  rw [set_len]
  obtain ⟨ps, q1, q2, q3⟩ := h3.stable h2 (es' := es) (code' := dc1.set (dc.length + 1) dc1.length) (fun _ _ => id) (fun i hi _ => e1 i (by omega))
  refine .iff _ _ _ _ ps ?_ ?_ q1 q2 q3
  · rw [e1 _ (by omega), h4 _ (by omega)]; simp
  · rw [List.getElem?_set_self (by omega)]
theorem co_else {es : List PE} {dc dc1 dc2 : List Int} {p : Nat} {loops : Int} {acc la lb : List AI} {hole hole2 : Int} {i : Inf} {o : Inf} {z : PB} (hp : CO es dc p loops acc) (hh : hole = (PB.opened { PB.zero with opener := 29 } z (dc.length + 2)).hole)
    (hh2 : hole2 = (PB.opened { PB.zero with opener := 30, other := o } z (dc1.length + 2)).hole)
    (h1 : CO es dc1 (dc.length + 2) loops la ∧ ∀ i, i < dc.length + 2 → dc1[i]? = (dc ++ [29, 0])[i]?)
    (k1 : CO es dc2 (dc1.length + 2) loops lb ∧ ∀ i, i < dc1.length + 2 → dc2[i]? = ((dc1 ++ [30, 0]).set hole.toNat (dc1.length + 2))[i]?) :
    CO es (dc2.set hole2.toNat dc2.length) p loops (acc ++ [⟨none, i, .els (trees la) (trees lb)⟩]) ∧ ∀ i, i < p → (dc2.set hole2.toNat dc2.length)[i]? = dc[i]? := by
  obtain ⟨⟨h2, h3⟩, h4⟩ := h1
  obtain ⟨⟨k2, k3⟩, k4⟩ := k1
  have hho : hole.toNat = dc.length + 1 := by rw [hh]; simp [PB.opened]; omega
  have hho2 : hole2.toNat = dc1.length + 1 := by rw [hh2]; simp [PB.opened]; omega
  rw [hho2]
  rw [hho] at k4
  have e1 : ∀ i, i ≠ dc1.length + 1 → (dc2.set (dc1.length + 1) dc2.length)[i]? = dc2[i]? := fun i hi => by rw [List.getElem?_set_ne (by omega)]
  have e3 : ∀ i, i < dc1.length → i ≠ dc.length + 1 → (dc2.set (dc1.length + 1) dc2.length)[i]? = dc1[i]? := fun i hi hn => by
    rw [e1 i (by omega), k4 i (by omega), List.getElem?_set_ne (by omega), List.getElem?_append_left hi]
  have e2 : ∀ i, i < dc.length → (dc2.set (dc1.length + 1) dc2.length)[i]? = dc[i]? := fun i hi => by
    rw [e3 i (by omega) (by omega), h4 i (by omega), List.getElem?_append_left hi]
  refine hp.snoc (by rw [set_len]; omega) e2 ?_
  rw [set_len]
  obtain ⟨ps, q1, q2, q3⟩ := h3.stable h2 (es' := es) (code' := dc2.set (dc1.length + 1) dc2.length) (fun _ _ => id) (fun i hi hi2 => e3 i hi2 (by omega))
  obtain ⟨qs, r1, r2, r3⟩ := k3.stable k2 (es' := es) (code' := dc2.set (dc1.length + 1) dc2.length) (fun _ _ => id) (fun i hi _ => e1 i (by omega))
  refine .els _ _ _ _ dc1.length _ ps qs ?_ ?_ q1 q2 q3 ?_ ?_ r1 r2 r3
  · rw [e3 _ (by omega) (by omega), h4 _ (by omega)]; simp
  · rw [e1 _ (by omega), k4 _ (by omega), List.getElem?_set_self (by simp; omega)]; simp
  · rw [e1 _ (by omega), k4 _ (by omega), List.getElem?_set_ne (by omega)]; simp
  · rw [List.getElem?_set_self (by omega)]
theorem co_loop {es : List PE} {dc dc1 : List Int} {p : Nat} {loops : Int} {acc la : List AI} {hole : Int} {i : Inf} {tm : Int} {z : PB} (hp : CO es dc p loops acc) (hl : 0 ≤ loops) (hh : hole = (PB.opened { PB.zero with opener := 31, times := tm } z (dc.length + 2)).hole)
    (h1 : CO es dc1 (dc.length + 2) (loops + 1) la ∧ ∀ i, i < dc.length + 2 → dc1[i]? = (dc ++ [31, 0])[i]?) : CO es ((dc1 ++ [32, (hole.toNat : Int) + 1]).set hole.toNat (dc1.length + 2)) p loops (acc ++ [⟨none, i, .doo (trees la)⟩]) ∧ ∀ i, i < p → ((dc1 ++ [32, (hole.toNat : Int) + 1]).set hole.toNat (dc1.length + 2))[i]? = dc[i]? := by
  obtain ⟨⟨h2, h3⟩, h4⟩ := h1
  have hho : hole.toNat = dc.length + 1 := by rw [hh]; simp [PB.opened]; omega
  rw [hho]
  obtain ⟨c, hc⟩ : ∃ c, c = (dc1 ++ [32, ((dc.length + 1 : Nat) : Int) + 1]).set (dc.length + 1) (dc1.length + 2) := ⟨_, rfl⟩
  rw [← hc]
  have hcl : c.length = dc1.length + 2 := by rw [hc]; simp
  have e1 : ∀ i, i < dc1.length → i ≠ dc.length + 1 → c[i]? = dc1[i]? := fun i hi hn => by rw [hc, List.getElem?_set_ne (by omega), List.getElem?_append_left hi]
  have e2 : ∀ i, i < dc.length → c[i]? = dc[i]? := fun i hi => by
    rw [e1 i (by omega) (by omega), h4 i (by omega), List.getElem?_append_left hi]
  refine hp.snoc (by omega) e2 ?_
  rw [hcl]
  rw [show decide (0 < loops + 1) = true by simp; omega] at h3
  obtain ⟨ps, q1, q2, q3⟩ := h3.stable h2 (es' := es) (code' := c) (fun _ _ => id) (fun i hi hi2 => e1 i hi2 (by omega))
  refine .doo _ _ _ dc1.length ps ?_ ?_ q1 q2 q3 ?_ ?_
  · rw [e1 _ (by omega) (by omega), h4 _ (by omega)]; simp
  · rw [hc, List.getElem?_set_self (by simp; omega)]; simp
  · rw [hc, List.getElem?_set_ne (by omega)]; simp
  · rw [hc, List.getElem?_set_ne (by omega), List.getElem?_append_right (by omega)]
    simp
    omega

set_option maxHeartbeats 1000000 in
theorem def_items {es : List PE} {ws : List RW} (hA : Alike es ws) (nt : Int) (s : ByteArray) (toks : List Tk) : ∀ (f : Nat) (ends : List ByteArray) (loops : Int) (acc : List AI) (I g : Nat) (tk : Int) (dc : List Int) (b : PB) (r : List PB) (kn : Inf) (a : Nat),
    toks.length + 1 - I ≤ f → I ≤ toks.length → toks.length - I + 2 ≤ g → At s toks I a → BR b acc loops → 0 ≤ loops → Opn b → ends = endsOf b.opener →
    Outc es nt s toks ends loops I g tk dc b r kn a acc (pItems ws toks s.size f ends loops acc I) := by
  intro f
  induction f with
  | zero => intro ends loops acc I g tk dc b r kn a h1 h2; omega
  | succ f ih =>
    intro ends loops acc I g tk dc b r kn a hf hI hg hat hbr hl hop hends
    obtain ⟨g, rfl⟩ : ∃ g0, g = g0 + 1 := ⟨g - 1, by omega⟩
    obtain ⟨n1, n2, n3⟩ := hat.next hI
    have bad : ∀ {E : Int} {tk' : Int} {dc' : List Int} {b' : PB} {r' : List PB} {kn' : Inf} {g' : Nat}, (stepP es nt (tk' + 1) dc' (b' :: r') kn' (tokS toks I)).1 = E → E ≠ 0 → defP es nt s (g' + 1) tk' dc' (b' :: r') kn' a = .inr (E, plc toks s.size I) := by
      intro E tk' dc' b' r' kn' g' h hE
      rw [← n1] at h
      rw [defP_err1 h hE, n2]
    have hnone := hop.none
    rw [pItems]
    split
    · rename_i hin
      have hlt : I < toks.length := tok_end toks I ends (by rw [hends]; exact hnone) hin
      exact ⟨by omega, by omega, hin, by simp, g + 1, dc, b, a, by simp, by simpa using hg, by simpa using hat, Same.refl b, hbr, fun p hp => ⟨hp, fun _ _ => rfl⟩⟩
    · rename_i hin
      have hin' : inL (tokS toks I) (endsOf b.opener) = false := by rw [← hends]; simpa using hin
      split
      · rename_i hst
        exact bad (step_stray es nt (tk + 1) dc r kn hop hst hin') (by decide)
      · rename_i hst
        have hst' : inL (tokS toks I) stray = false := by simpa using hst
        have hne := (stray_not hst').1
        obtain ⟨hlt, hat1⟩ := n3.resolve_left hne
        split
        · rename_i hnum
          have hs := step_num es nt (tk + 1) dc b r kn hst' hnum
          rw [← n1] at hs
          refine (ih ends loops _ (I + 1) g (tk + 1) _ { b.add (opInf 28) with numbers := min (b.numbers + 1) 2, a0 := b.a1, a1 := (numS (nx s a).1).1 } r kn _ (by omega) (by omega) (by omega) hat1 ?_ hl hop hends).step (defP_ok1 hs) (by omega) (by omega) ⟨rfl, rfl, rfl, rfl, rfl⟩ (fun p hp => hp.snoc (by simp) (fun i hi => List.getElem?_append_left hi) (by
            rw [n1, show (dc ++ [28, (numS (tokS toks I)).1]).length = dc.length + 2 by simp]
            exact .num _ _ _ (num_bd _ hnum) (by simp) (by rw [List.getElem?_append_right (by omega)]; simp)))
          refine ⟨?_, ?_, hbr.ido, ?_⟩
          · rw [infL_snoc]; simp [PB.add, hbr.does, op_some.1]
          · rw [infL_snoc]; exact hbr.nn.then (Inf.Nn.plain (by omega) (by omega))
          · rw [n1]; exact hbr.num.some rfl rfl rfl
        · rename_i hnum
          split
          · rename_i hif
            have hif' : (nx s a).1.toList = [105, 102] := by rw [n1]; simpa using hif
            have hs : stepP es nt (tk + 1) dc (b :: r) kn (nx s a).1 = (0, dc ++ [29, 0], PB.opened { PB.zero with opener := 29 } (b.add (opInf 29)) (dc.length + 2) :: b.add (opInf 29) :: r, kn) := by simp [stepP, hif']
            have hd := defP_ok1 (es := es) (nt := nt) (g := g) hs
            have hB : BR (PB.opened { PB.zero with opener := 29 } (b.add (opInf 29)) (dc.length + 2)) [] loops := ⟨rfl, Inf.Nn.zero, by simp [PB.opened, PB.add, hbr.ido], rfl⟩
            have iA := ih [tElse, tThen] loops [] (I + 1) g (tk + 1) (dc ++ [29, 0]) _ (b.add (opInf 29) :: r) kn _ (by omega) (by omega) (by omega) hat1 hB hl (Or.inl rfl) rfl
            generalize pItems ws toks s.size f [tElse, tThen] loops [] (I + 1) = RA at iA
            match RA, iA with
            | .inr E, iA => exact hd.trans iA
            | .inl (la, ta, I1), iA =>
              obtain ⟨a1, a2, a3, a4, g1, dc1, b1, p1, a5, a6, a7, a8, a9, a10⟩ := iA
              obtain ⟨g1, rfl⟩ : ∃ g0, g1 = g0 + 1 := ⟨g1 - 1, by omega⟩
              obtain ⟨m1, m2, m3⟩ := a7.next (by omega)
              rw [← a4] at m1
              simp only
              have hta : ta.toList = [101, 108, 115, 101] ∨ ta.toList = [116, 104, 101, 110] := by
                exact end_two a3
              have hI1 : I1 - 1 + 1 = I1 := by omega
              have m4 : At s toks I1 (nx s p1).2.2 := by
                rcases m3 with m3 | ⟨_, m3⟩
                · rw [← a4] at m3; rcases hta with h | h <;> rw [h] at m3 <;> cases m3
                · rw [hI1] at m3; exact m3
              have hop1 : b1.opener = 29 := a8.op
              split
              · rename_i hel
                have hel' : (nx s p1).1.toList = [101, 108, 115, 101] := by rw [m1]; simpa using hel
                have hs1 : stepP es nt (tk + 1 + ((I1 - 1 - (I + 1) : Nat) : Int) + 1) dc1 (b1 :: b.add (opInf 29) :: r) kn (nx s p1).1 = (0, (dc1 ++ [30, 0]).set b1.hole.toNat (dc1.length + 2), PB.opened { PB.zero with opener := 30, other := b1.does.then (opInf 30) } (b.add (opInf 29)) (dc1.length + 2) :: b.add (opInf 29) :: r, kn) := by
                  simp [stepP, hel', hop1]
                have hd1 := defP_ok1 (es := es) (nt := nt) (g := g1) hs1
                have hB2 : BR (PB.opened { PB.zero with opener := 30, other := b1.does.then (opInf 30) } (b.add (opInf 29)) (dc1.length + 2)) [] loops := ⟨rfl, Inf.Nn.zero, by simp [PB.opened, PB.add, hbr.ido], rfl⟩
                have iB := ih [tThen] loops [] I1 g1 (tk + 1 + ((I1 - 1 - (I + 1) : Nat) : Int) + 1) ((dc1 ++ [30, 0]).set b1.hole.toNat (dc1.length + 2)) _ (b.add (opInf 29) :: r) kn _ (by omega) a2 (by omega) m4 hB2 hl (Or.inr (Or.inl rfl)) rfl
                generalize pItems ws toks s.size f [tThen] loops [] I1 = RB at iB
                match RB, iB with
                | .inr E, iB => exact hd.trans (a5.trans (hd1.trans iB))
                | .inl (lb, tb, I2), iB =>
                  obtain ⟨b1', b2', b3, b4, g2, dc2, b2, p2, b5, b6, b7, b8, b9, b10⟩ := iB
                  obtain ⟨g2, rfl⟩ : ∃ g0, g2 = g0 + 1 := ⟨g2 - 1, by omega⟩
                  obtain ⟨q1, q2, q3⟩ := b7.next (by omega)
                  rw [← b4] at q1
                  simp only
                  have htb : tb.toList = [116, 104, 101, 110] := by
                    exact end_then b3
                  have hI2 : I2 - 1 + 1 = I2 := by omega
                  have q4 : At s toks I2 (nx s p2).2.2 := by
                    rcases q3 with q3 | ⟨_, q3⟩
                    · rw [← b4, htb] at q3; cases q3
                    · rw [hI2] at q3; exact q3
                  have hop2 : b2.opener = 30 := b8.op
                  have hoth : b2.other = (infL la).more := by rw [b8.other, a9.does.symm]; show b1.does.then (opInf 30) = _; rw [op_none.1, then_one (by rw [a9.does]; exact a9.nn)]
                  have hdoes : b2.does = infL lb := b9.does
                  have htb' : (nx s p2).1.toList = [116, 104, 101, 110] := by rw [q1]; exact htb
                  split
                  · rename_i hnet
                    have hnn : b2.does.net = b2.other.net := by rw [hoth, hdoes]; exact hnet.symm
                    have hs2 : stepP es nt (tk + 1 + ((I1 - 1 - (I + 1) : Nat) : Int) + 1 + ((I2 - 1 - I1 : Nat) : Int) + 1) dc2 (b2 :: b.add (opInf 29) :: r) kn (nx s p2).1 = (0, dc2.set b2.hole.toNat dc2.length, (b.add (opInf 29)).add (b2.does.orP b2.other) :: r, kn) := by
                      simp [stepP, htb', hop2, hnn]
                    have hd2 := defP_ok1 (es := es) (nt := nt) (g := g2) hs2
                    refine (ih ends loops _ I2 g2 (tk + 1 + ((I1 - 1 - (I + 1) : Nat) : Int) + 1 + ((I2 - 1 - I1 : Nat) : Int) + 1) _ ((b.add (opInf 29)).add (b2.does.orP b2.other)) r kn _ (by omega) b2' (by omega) q4 ?_ hl hop hends).step (hd.trans (a5.trans (hd1.trans (b5.trans hd2)))) (by omega) (by omega) ⟨rfl, rfl, rfl, rfl, rfl⟩ (fun p hp => co_else hp a8.hole b8.hole (a10 _ (CO.nil' es _ loops (by simp))) (b10 _ (CO.nil' es _ loops (by simp))))
                    have hw : ((infL la).more.ways (infL lb)).Nn := a9.nn.more.ways b9.nn hnet
                    refine ⟨?_, ?_, hbr.ido, NumR.none rfl⟩
                    · rw [infL_snoc]
                      show (b.does.then (opInf 29)).then (b2.does.orP b2.other) = _
                      rw [hbr.does, hoth, hdoes]
                      exact if_eq hbr.nn b9.nn a9.nn.more hnet.symm
                    · rw [infL_snoc]; exact hbr.nn.then ((Inf.Nn.plain (by omega) (by omega)).then hw)
                  · rename_i hnet
                    have hnn : ¬ b2.does.net = b2.other.net := by rw [hoth, hdoes]; exact fun e => hnet e.symm
                    refine hd.trans (a5.trans (hd1.trans (b5.trans ?_)))
                    rw [defP_err1 (E := 6) (by simp [stepP, htb', hop2, hnn]) (by decide), q2]
              · rename_i hel
                have hth : ta.toList = [116, 104, 101, 110] := hta.resolve_left (by simpa using hel)
                have hth' : (nx s p1).1.toList = [116, 104, 101, 110] := by rw [m1]; exact hth
                have hoth : b1.other = Inf.zero := a8.other
                have hdoes : b1.does = infL la := a9.does
                split
                · rename_i hnet
                  have hnn : b1.does.net = b1.other.net := by rw [hoth, hdoes]; exact hnet
                  have hs1 : stepP es nt (tk + 1 + ((I1 - 1 - (I + 1) : Nat) : Int) + 1) dc1 (b1 :: b.add (opInf 29) :: r) kn (nx s p1).1 = (0, dc1.set b1.hole.toNat dc1.length, (b.add (opInf 29)).add (b1.does.orP b1.other) :: r, kn) := by
                    simp [stepP, hth', hop1, hnn]
                  have hd1 := defP_ok1 (es := es) (nt := nt) (g := g1) hs1
                  refine (ih ends loops _ I1 g1 (tk + 1 + ((I1 - 1 - (I + 1) : Nat) : Int) + 1) _ ((b.add (opInf 29)).add (b1.does.orP b1.other)) r kn _ (by omega) a2 (by omega) m4 ?_ hl hop hends).step (hd.trans (a5.trans hd1)) (by omega) (by omega) ⟨rfl, rfl, rfl, rfl, rfl⟩ (fun p hp => co_then hp a8.hole (a10 _ (CO.nil' es _ loops (by simp))))
                  have hw : ((infL la).ways Inf.zero).Nn := a9.nn.ways Inf.Nn.zero hnet
                  have hsym : (infL la).ways Inf.zero = Inf.zero.ways (infL la) := by
                    refine Inf.ext' ?_ ?_ ?_ ?_ ?_ <;> simp only [Inf.ways]
                    · omega
                    · exact hnet
                    · omega
                    · omega
                  refine ⟨?_, ?_, hbr.ido, NumR.none rfl⟩
                  · rw [infL_snoc]
                    show (b.does.then (opInf 29)).then (b1.does.orP b1.other) = _
                    rw [hbr.does, hoth, hdoes, hsym]
                    exact if_eq hbr.nn a9.nn Inf.Nn.zero hnet
                  · rw [infL_snoc]; exact hbr.nn.then ((Inf.Nn.plain (by omega) (by omega)).then hw)
                · rename_i hnet
                  have hnn : ¬ b1.does.net = b1.other.net := by rw [hoth, hdoes]; exact hnet
                  refine hd.trans (a5.trans ?_)
                  rw [defP_err1 (E := 6) (by simp [stepP, hth', hop1, hnn]) (by decide), m2]
          · rename_i hif
            split
            · rename_i hdo
              have hdo' : (nx s a).1.toList = [100, 111] := by rw [n1]; simpa using hdo
              rcases hbr.num.two with ⟨t1, t2⟩ | ⟨t1, t2⟩
              · rw [t2]
                simp only
                exact bad (by rw [n1] at hdo'; simp [stepP, hdo', t1]) (by decide)
              · rw [t2]
                simp only
                have hnl : ¬ b.numbers < 2 := by omega
                split
                · rename_i hbig
                  have h1 : 1000 < max 0 (b.a0 - b.a1) := by omega
                  exact bad (E := 7) (by
                    rw [n1] at hdo'
                    simp only [stepP]
                    rw [if_neg (by simp [hdo']), if_neg (by simp [hdo']), if_neg (by simp [hdo']), if_neg (by simp [hdo']), if_neg (by simp [hdo']), if_neg (by simp [hdo']), if_neg (by simp [hdo']), if_pos (by simp [hdo']), if_neg hnl, if_pos h1]) (by decide)
                · rename_i hbig
                  have h1 : ¬ 1000 < max 0 (b.a0 - b.a1) := by omega
                  have hs : stepP es nt (tk + 1) dc (b :: r) kn (nx s a).1 = (0, dc ++ [31, 0], PB.opened { PB.zero with opener := 31, times := max 0 (b.a0 - b.a1) } (b.add (opInf 31)) (dc.length + 2) :: b.add (opInf 31) :: r, kn) := by
                    simp only [stepP]
                    rw [if_neg (by simp [hdo']), if_neg (by simp [hdo']), if_neg (by simp [hdo']), if_neg (by simp [hdo']), if_neg (by simp [hdo']), if_neg (by simp [hdo']), if_neg (by simp [hdo']), if_pos (by simp [hdo']), if_neg hnl, if_neg h1]
                  have hd := defP_ok1 (es := es) (nt := nt) (g := g) hs
                  have hB : BR (PB.opened { PB.zero with opener := 31, times := max 0 (b.a0 - b.a1) } (b.add (opInf 31)) (dc.length + 2)) [] (loops + 1) := ⟨rfl, Inf.Nn.zero, by simp [PB.opened]; omega, rfl⟩
                  have iA := ih [tLoop] (loops + 1) [] (I + 1) g (tk + 1) (dc ++ [31, 0]) _ (b.add (opInf 31) :: r) kn _ (by omega) (by omega) (by omega) hat1 hB (by omega) (Or.inr (Or.inr (Or.inl rfl))) rfl
                  generalize pItems ws toks s.size f [tLoop] (loops + 1) [] (I + 1) = RA at iA
                  match RA, iA with
                  | .inr E, iA => exact hd.trans iA
                  | .inl (la, ta, I1), iA =>
                    obtain ⟨a1, a2, a3, a4, g1, dc1, b1, p1, a5, a6, a7, a8, a9, a10⟩ := iA
                    obtain ⟨g1, rfl⟩ : ∃ g0, g1 = g0 + 1 := ⟨g1 - 1, by omega⟩
                    obtain ⟨m1, m2, m3⟩ := a7.next (by omega)
                    rw [← a4] at m1
                    simp only
                    have hta : ta.toList = [108, 111, 111, 112] := by
                      exact end_loop a3
                    have hta' : (nx s p1).1.toList = [108, 111, 111, 112] := by rw [m1]; exact hta
                    have hI1 : I1 - 1 + 1 = I1 := by omega
                    have m4 : At s toks I1 (nx s p1).2.2 := by
                      rcases m3 with m3 | ⟨_, m3⟩
                      · rw [← a4, hta] at m3; cases m3
                      · rw [hI1] at m3; exact m3
                    have hop1 : b1.opener = 31 := a8.op
                    have htm : b1.times = max 0 (b.a0 - b.a1) := a8.times
                    have hdoes : b1.does = infL la := a9.does
                    split
                    · rename_i hnet
                      have hnn : b1.does.net = 0 := by rw [hdoes]; exact hnet
                      have hs1 : stepP es nt (tk + 1 + ((I1 - 1 - (I + 1) : Nat) : Int) + 1) dc1 (b1 :: b.add (opInf 31) :: r) kn (nx s p1).1 = (0, (dc1 ++ [32, (b1.hole.toNat : Int) + 1]).set b1.hole.toNat (dc1.length + 2), (b.add (opInf 31)).add ((b1.does.then (opInf 32)).timesP b1.times) :: r, kn) := by
                        simp [stepP, hta', hop1, hnn]
                      have hd1 := defP_ok1 (es := es) (nt := nt) (g := g1) hs1
                      refine (ih ends loops _ I1 g1 (tk + 1 + ((I1 - 1 - (I + 1) : Nat) : Int) + 1) _ ((b.add (opInf 31)).add ((b1.does.then (opInf 32)).timesP b1.times)) r kn _ (by omega) a2 (by omega) m4 ?_ hl hop hends).step (hd.trans (a5.trans hd1)) (by omega) (by omega) ⟨rfl, rfl, rfl, rfl, rfl⟩ (fun p hp => co_loop hp hl a8.hole (a10 _ (CO.nil' es _ (loops + 1) (by simp))))
                      refine ⟨?_, ?_, hbr.ido, NumR.none rfl⟩
                      · rw [infL_snoc]
                        show (b.does.then (opInf 31)).then ((b1.does.then (opInf 32)).timesP b1.times) = _
                        rw [hbr.does, hdoes, htm]
                        exact do_eq hbr.nn a9.nn (by omega)
                      · rw [infL_snoc]; exact hbr.nn.then ((Inf.Nn.plain (by omega) (by omega)).then (a9.nn.times (by omega)))
                    · rename_i hnet
                      have hnn : ¬ b1.does.net = 0 := by rw [hdoes]; exact hnet
                      refine hd.trans (a5.trans ?_)
                      rw [defP_err1 (E := 6) (by simp [stepP, hta', hop1, hnn]) (by decide), m2]
            · rename_i hdo
              have hw := step_word es nt (tk + 1) dc b r kn hst' hnum hif hdo
              rcases word_eq hA dc r kn (tokS toks I) hl hbr.ido with ⟨w1, w2, dc', w3, w4, w5, w6⟩ | ⟨w1, w2⟩
              · rw [if_pos w1]
                have hw2 : stepP es nt (tk + 1) dc (b :: r) kn (nx s a).1 = (0, dc', b.add (wordI ws (tokS toks I)) :: r, kn) := by rw [n1]; exact hw.trans w3
                exact (ih ends loops _ (I + 1) g (tk + 1) _ (b.add (wordI ws (tokS toks I))) r kn _ (by omega) (by omega) (by omega) hat1 (hbr.snoc _ _ w2) hl hop hends).step (defP_ok1 hw2) (by omega) (by omega) (Same.add b _) (fun p hp => hp.snoc w4 w5 w6)
              · rw [if_neg w1]
                exact bad (by rw [hw]; exact w2) w1

end Go.Proofs.YtcphhbofjkenaaaGreatDoor

namespace Go.Proofs.YtcphhbofjkenaaaGreatDoor
open Go Go.RowKit
set_option linter.unusedVariables false
set_option linter.unusedSimpArgs false

theorem stepP_none {es : List PE} {nt tk : Int} {dc : List Int} {st : List PB} {kn : Inf} {s : ByteArray} (h : (stepP es nt tk dc st kn s).1 = 0) : (s.toList == []) = false := by
  cases hs : (s.toList == []) with
  | false => rfl
  | true =>
    unfold stepP at h
    cases st with
    | nil => exact absurd (show (5 : Int) = 0 from h) (by decide)
    | cons b r => simp only [hs, if_true] at h; exact absurd (show (5 : Int) = 0 from h) (by decide)
theorem stepP_semi {es : List PE} {nt tk : Int} {dc : List Int} {st : List PB} {kn : Inf} {s : ByteArray} (h : (stepP es nt tk dc st kn s).1 = 0) (h59 : (s.toList == [59]) = true) : (stepP es nt tk dc st kn s).2.2.1 = [] := by
  have e : s.toList = [59] := by simpa using h59
  unfold stepP at h ⊢
  cases st with
  | nil => rfl
  | cons b r =>
    simp only [e] at h ⊢
    simp only [show (([59] : List UInt8) == []) = false from rfl, show (([59] : List UInt8) == [58]) = false from rfl, show (([59] : List UInt8) == [118, 97, 114, 105, 97, 98, 108, 101]) = false from rfl, show (([59] : List UInt8) == [59]) = true from rfl, if_true, Bool.false_eq_true, if_false] at h ⊢
    by_cases ho : b.opener = 34
    · rw [if_pos ho]
    · rw [if_neg ho] at h; exact absurd (show (5 : Int) = 0 from h) (by decide)

structure Reads (s t : ByteArray) (d : Nat) (K K' : Nat → Prop) : Prop where
  nx : ∀ b, K b → (nx t b).1 = (nx s (b + d)).1 ∧ (nx t b).2.2 + d = (nx s (b + d)).2.2
  go : ∀ b, K b → ((Go.Proofs.YtcphhbofjkenaaaGreatDoor.nx t b).1.toList == []) = false → ((Go.Proofs.YtcphhbofjkenaaaGreatDoor.nx t b).1.toList == [59]) = false → K (Go.Proofs.YtcphhbofjkenaaaGreatDoor.nx t b).2.2
  semi : ∀ b, K b → ((Go.Proofs.YtcphhbofjkenaaaGreatDoor.nx t b).1.toList == [59]) = true → K' (Go.Proofs.YtcphhbofjkenaaaGreatDoor.nx t b).2.2
  sub : ∀ b, K b → K' b
  back : ∀ b, K' b → ((Go.Proofs.YtcphhbofjkenaaaGreatDoor.nx t b).1.toList == []) = false → K b
  le : ∀ b, K' b → b ≤ t.size

section
variable {s t : ByteArray} {d : Nat} {K K' : Nat → Prop}

theorem defP_sim (hR : Reads s t d K K') (es : List PE) (nt : Int) : ∀ (f b : Nat) (tk : Int) (dc : List Int) (st : List PB) (kn : Inf) (R : List Int × Inf × Int × Nat), K b → st ≠ [] → defP es nt s f tk dc st kn (b + d) = .inl R → ∃ b', K' b' ∧ R.2.2.2 = b' + d ∧ b < b' ∧ ∀ g, b' - b + 1 ≤ g → defP es nt t g tk dc st kn b = .inl (R.1, R.2.1, R.2.2.1, b')
  | 0, b, tk, dc, st, kn, R, hK, hne, h => by
    rw [defP] at h; cases h
  | f + 1, b, tk, dc, [], kn, R, hK, hne, h => absurd rfl hne
  | f + 1, b, tk, dc, x :: r, kn, R, hK, hne, h => by
    rw [defP] at h
    obtain ⟨n1, n2⟩ := hR.nx b hK
    rw [← n1, ← n2] at h
    by_cases h0 : (stepP es nt (tk + 1) dc (x :: r) kn (nx t b).1).1 = 0
    · rw [if_pos h0] at h
      have hem := stepP_none h0
      have hmv : b < (nx t b).2.2 := nextF_move t _ b (hR.le b (hR.sub b hK)) hem
      cases hs : (stepP es nt (tk + 1) dc (x :: r) kn (nx t b).1).2.2.1 with
      | nil =>
        rw [hs] at h
        cases f with
        | zero => rw [defP] at h; cases h
        | succ f =>
          rw [defP] at h
          injection h with h
          subst h
          refine ⟨(nx t b).2.2, ?_, rfl, hmv, fun g hg => ?_⟩
          · cases h59 : ((nx t b).1.toList == [59]) with
            | true => exact hR.semi b hK h59
            | false => exact hR.sub _ (hR.go b hK hem h59)
          · obtain ⟨g', rfl⟩ : ∃ g', g = g' + 1 + 1 := ⟨g - 2, by omega⟩
            rw [defP, if_pos h0, hs, defP]
      | cons y r' =>
        rw [hs] at h
        have h59 : ((nx t b).1.toList == [59]) = false := by
          cases h59 : ((nx t b).1.toList == [59]) with
          | false => rfl
          | true => have := stepP_semi h0 h59; rw [hs] at this; cases this
        obtain ⟨b', c1, c2, c3, c4⟩ := defP_sim hR es nt f (nx t b).2.2 _ _ _ _ R (hR.go b hK hem h59) (List.cons_ne_nil _ _) h
        refine ⟨b', c1, c2, by omega, fun g hg => ?_⟩
        obtain ⟨g', rfl⟩ : ∃ g', g = g' + 1 := ⟨g - 1, by omega⟩
        rw [defP, if_pos h0, hs]
        exact c4 g' (by omega)
    · rw [if_neg h0] at h; cases h

theorem refP_name {es : List PE} {x : ByteArray} (h : refP es x = 0) : (x.toList == []) = false ∧ (x.toList == [59]) = false := by
  have hn : nameP x = true := by
    unfold refP at h
    cases hn : nameP x with
    | true => rfl
    | false => rw [hn] at h; simp at h
  unfold nameP at hn
  rw [inL_nine] at hn
  simp only [Bool.and_eq_true, Bool.not_eq_true', Bool.or_eq_false_iff] at hn
  refine ⟨hn.1.1.1, ?_⟩
  have := hn.1.2
  simp [this]

theorem varP_sim (hR : Reads s t d K K') {es : List PE} {nv : Int} {b : Nat} (hK : K b) (h : (varP es nv s (b + d)).1.1 = 0) : varP es nv t b = varP es nv s (b + d) ∧ b < (nx t b).2.2 ∧ K (nx t b).2.2 := by
  obtain ⟨n1, n2⟩ := hR.nx b hK
  unfold varP at h ⊢
  rw [← n1] at h ⊢
  by_cases hr : refP es (nx t b).1 = 0
  · rw [if_pos hr] at h
    obtain ⟨e1, e2⟩ := refP_name hr
    by_cases hv : nv = 16
    · rw [if_pos hv] at h; exact absurd (show (8 : Int) = 0 from h) (by decide)
    · refine ⟨?_, nextF_move t _ b (hR.le b (hR.sub b hK)) e1, hR.go b hK e1 e2⟩
      rw [if_pos hr, if_pos hr, if_neg hv, if_neg hv]
  · rw [if_neg hr] at h; exact absurd h hr

theorem wordP_sim (hR : Reads s t d K K') {es : List PE} {nt : Int} {code : List Int} {b : Nat} (hK : K b) (h : (wordP es nt code s (b + d)).1.1 = 0) :
    ∃ b', K' b' ∧ b < b' ∧ (wordP es nt code s (b + d)).1 = (0, 0) ∧ (wordP es nt code s (b + d)).2.2.2.2 = b' + d ∧ wordP es nt code t b = ((0, 0), (wordP es nt code s (b + d)).2.1, (wordP es nt code s (b + d)).2.2.1, (wordP es nt code s (b + d)).2.2.2.1, b') := by
  obtain ⟨n1, n2⟩ := hR.nx b hK
  unfold wordP at h ⊢
  rw [← n1, ← n2] at h ⊢
  by_cases hr : refP es (nx t b).1 = 0
  · simp only [if_pos hr] at h ⊢
    obtain ⟨e1, e2⟩ := refP_name hr
    have hK2 := hR.go b hK e1 e2
    have hmv : b < (nx t b).2.2 := nextF_move t _ b (hR.le b (hR.sub b hK)) e1
    cases hd : defP es nt s (s.size + 2) 2 code [PB.first] Inf.zero ((nx t b).2.2 + d) with
    | inr E =>
      rw [hd] at h
      exact absurd h (defP_err es nt s _ _ _ _ _ _ E hd)
    | inl D =>
      obtain ⟨dc, kn, tk, a'⟩ := D
      obtain ⟨b', c1, c2, c3, c4⟩ := defP_sim hR es nt _ _ _ _ _ _ _ hK2 (List.cons_ne_nil _ _) hd
      have hle := hR.le _ c1
      rw [c4 (t.size + 2) (by omega)]
      simp only at c2 ⊢
      exact ⟨b', c1, by omega, trivial, c2, rfl⟩
  · rw [if_neg hr] at h; exact absurd h hr

theorem loadP_sim (hR : Reads s t d K K') : ∀ (f b : Nat) (es : List PE) (nv nt : Int) (code : List Int) (R : List PE × Int × Int × List Int), K' b → loadP s f (b + d) es nv nt code = ((0, 0), R) →
    ∃ (b1 f1 : Nat) (es1 : List PE) (nv1 nt1 : Int) (code1 : List Int), K' b1 ∧ ((nx t b1).1.toList == []) = true ∧ loadP s f1 (b1 + d) es1 nv1 nt1 code1 = ((0, 0), R) ∧ b ≤ b1 ∧ ∀ g, b1 - b + 1 ≤ g → loadP t g b es nv nt code = ((0, 0), es1, nv1, nt1, code1) := by
  intro f
  induction f with
  | zero => intro b es nv nt code R hK h; rw [loadP] at h; injection h with h1 h2; injection h1 with h1 h2; exact absurd h1 (by decide)
  | succ f ih =>
    intro b es nv nt code R hK' h
    cases he : ((nx t b).1.toList == []) with
    | true =>
      refine ⟨b, f + 1, es, nv, nt, code, hK', he, h, Nat.le_refl _, fun g hg => ?_⟩
      obtain ⟨g', rfl⟩ : ∃ g', g = g' + 1 := ⟨g - 1, by omega⟩
      rw [loadP, if_pos he]
    | false =>
      have hK := hR.back b hK' he
      obtain ⟨n1, n2⟩ := hR.nx b hK
      have hmv : b < (nx t b).2.2 := nextF_move t _ b (hR.le b hK') he
      rw [loadP, ← n1, ← n2, if_neg (by rw [he]; exact Bool.false_ne_true)] at h
      cases hv : ((nx t b).1.toList == [118, 97, 114, 105, 97, 98, 108, 101]) with
      | true =>
        rw [if_pos hv] at h
        have h59 : ((nx t b).1.toList == [59]) = false := by
          rw [show (nx t b).1.toList = [118, 97, 114, 105, 97, 98, 108, 101] by simpa using hv]; rfl
        have hK2 := hR.go b hK he h59
        by_cases h0 : (varP es nv s ((nx t b).2.2 + d)).1.1 = 0
        · rw [if_pos h0] at h
          obtain ⟨v1, v2, v3⟩ := varP_sim hR hK2 h0
          rw [← (hR.nx _ hK2).2] at h
          obtain ⟨b1, f1, es1, nv1, nt1, code1, c1, c2, c3, c4, c5⟩ := ih _ _ _ _ _ R (hR.sub _ v3) h
          refine ⟨b1, f1, es1, nv1, nt1, code1, c1, c2, c3, by omega, fun g hg => ?_⟩
          obtain ⟨g', rfl⟩ : ∃ g', g = g' + 1 := ⟨g - 1, by omega⟩
          rw [loadP, if_neg (by rw [he]; exact Bool.false_ne_true), if_pos hv, v1, if_pos h0]
          exact c5 g' (by omega)
        · rw [if_neg h0] at h
          injection h with h1 h2
          exact absurd (by rw [h1]) h0
      | false =>
        rw [if_neg (by rw [hv]; exact Bool.false_ne_true)] at h
        cases hc : ((nx t b).1.toList == [58]) with
        | true =>
          rw [if_pos hc] at h
          have h59 : ((nx t b).1.toList == [59]) = false := by
            rw [show (nx t b).1.toList = [58] by simpa using hc]; rfl
          have hK2 := hR.go b hK he h59
          by_cases h0 : (wordP es nt code s ((nx t b).2.2 + d)).1.1 = 0
          · rw [if_pos h0] at h
            obtain ⟨b', v1, v2, v3, v4, v5⟩ := wordP_sim hR hK2 h0
            rw [v4] at h
            obtain ⟨b1, f1, es1, nv1, nt1, code1, c1, c2, c3, c4, c5⟩ := ih _ _ _ _ _ R v1 h
            refine ⟨b1, f1, es1, nv1, nt1, code1, c1, c2, c3, by omega, fun g hg => ?_⟩
            obtain ⟨g', rfl⟩ : ∃ g', g = g' + 1 := ⟨g - 1, by omega⟩
            rw [loadP, if_neg (by rw [he]; exact Bool.false_ne_true), if_neg (by rw [hv]; exact Bool.false_ne_true), if_pos hc, v5]
            simp only [if_true]
            exact c5 g' (by omega)
          · rw [if_neg h0] at h
            injection h with h1 h2
            exact absurd (by rw [h1]) h0
        | false =>
          rw [if_neg (by rw [hc]; exact Bool.false_ne_true)] at h
          injection h with h1 h2
          injection h1 with h1 h3
          exact absurd h1 (by decide)
end

end Go.Proofs.YtcphhbofjkenaaaGreatDoor

namespace Go.Proofs.YtcphhbofjkenaaaGreatDoor
open Go Go.RowKit
set_option linter.unusedVariables false
set_option linter.unusedSimpArgs false

theorem nx_plain {s : ByteArray} (h92 : ∀ i, i < s.size → byt s i ≠ 92) (f a : Nat) (ha : a ≤ s.size) : nextF s f a = (s.extract (cutB s a) (cutE s a), cutB s a, cutE s a) := by
  cases f with
  | zero => rfl
  | succ f =>
    rw [nextF, if_neg]
    intro h
    obtain ⟨l1, l2, l3⟩ := cut_le s a ha
    have e := (ext_list _ _).1 h
    have hsz : (s.extract (cutB s a) (cutE s a)).size = 1 := by rw [e]; rfl
    rw [ByteArray.size_extract] at hsz
    have hb := byt_ext s (cutB s a) (cutE s a) 0 l3 (by omega)
    rw [e] at hb
    exact h92 (cutB s a + 0) (by omega) (by rw [← hb]; rfl)

section
variable {s : ByteArray} {m : Nat}

theorem cut_ink {a : Nat} (ha : a ≤ s.size) {i : Nat} (h1 : a ≤ i) (h2 : i < s.size) (hi : blk (byt s i) = false) : cutB s a ≤ i := by
  have hB := scan_spec ink s a ha
  refine Nat.le_of_not_lt fun h => ?_
  have := hB.2.2.1 i h1 h
  unfold ink at this
  rw [hi] at this
  cases this
theorem cutE_blk {a : Nat} (ha : a ≤ s.size) {i : Nat} (h1 : cutB s a ≤ i) (hi : blk (byt s i) = true) : cutE s a ≤ i := by
  have hB := scan_spec ink s a ha
  have hE := scan_spec blk s (scan ink s a) hB.2.1
  refine Nat.le_of_not_lt fun h => ?_
  have := hE.2.2.1 i h1 h
  rw [hi] at this
  cases this
theorem cutB_ink {a : Nat} (ha : a ≤ s.size) (h : cutB s a < s.size) : blk (byt s (cutB s a)) = false := by
  have hB := scan_spec ink s a ha
  rcases hB.2.2.2 with e | e
  · exact absurd e (by unfold cutB at h; omega)
  · have e' : (!blk (byt s (cutB s a))) = true := e
    simpa using e'
theorem cutE_gt {a : Nat} (ha : a ≤ s.size) (h : cutB s a < s.size) : cutB s a < cutE s a := by
  have hB := scan_spec ink s a ha
  have hE := scan_spec blk s (scan ink s a) hB.2.1
  have h1 := cutB_ink ha h
  refine Nat.lt_of_le_of_ne hE.1 fun e => ?_
  rcases hE.2.2.2 with e2 | e2
  · have e1 : cutB s a = scan blk s (scan ink s a) := e
    omega
  · have e1 : cutB s a = scan blk s (scan ink s a) := e
    rw [← e1, h1] at e2
    cases e2
theorem ext_some {b e : Nat} (h : b < e) (he : e ≤ s.size) : ((s.extract b e).toList == []) = false := by
  cases hh : ((s.extract b e).toList == []) with
  | false => rfl
  | true =>
    have := congrArg ByteArray.size ((ext_list _ _).1 hh)
    rw [ByteArray.size_extract] at this
    have h0 : (⟨([] : List UInt8).toArray⟩ : ByteArray).size = 0 := rfl
    rw [h0] at this
    omega

structure CutAt (s : ByteArray) (m : Nat) : Prop where
  two : 2 ≤ m
  le : m ≤ s.size
  semi : byt s (m - 2) = 59
  bl : byt s (m - 1) = 32
  own : m = 2 ∨ byt s (m - 3) = 32

theorem pre_size (hm : m ≤ s.size) : (s.extract 0 m).size = m := by rw [ByteArray.size_extract]; omega
theorem pre_byt (hm : m ≤ s.size) {i : Nat} (hi : i < m) : byt (s.extract 0 m) i = byt s i := by
  have := byt_ext s 0 m i hm (by omega)
  simpa using this
theorem pre_no (hm : m ≤ s.size) (h92 : ∀ i, i < s.size → byt s i ≠ 92) : ∀ i, i < (s.extract 0 m).size → byt (s.extract 0 m) i ≠ 92 := fun i hi => by
  rw [pre_size hm] at hi
  rw [pre_byt hm hi]
  exact h92 i (by omega)

theorem pre_cut (hm : m ≤ s.size) {a : Nat} (ha : a ≤ m) (hB : cutB s a < m) (hE : cutE s a < m) : cutB (s.extract 0 m) a = cutB s a ∧ cutE (s.extract 0 m) a = cutE s a := by
  have sB := scan_spec ink s a (by omega)
  have sE := scan_spec blk s (scan ink s a) sB.2.1
  have e1 : cutB (s.extract 0 m) a = cutB s a := by
    refine scan_eq sB.1 (by rw [pre_size hm]; exact Nat.le_of_lt hB) (fun x h1 h2 => ?_) (Or.inr ?_)
    · have h2' : x < cutB s a := h2
      rw [pre_byt hm (by omega)]; exact sB.2.2.1 x h1 h2
    · have : byt (s.extract 0 m) (cutB s a) = byt s (cutB s a) := pre_byt hm hB
      rw [this]
      rcases sB.2.2.2 with e | e
      · exact absurd e (by unfold cutB at hB; omega)
      · exact e
  refine ⟨e1, ?_⟩
  unfold cutE
  rw [show scan ink (s.extract 0 m) a = scan ink s a from e1]
  refine scan_eq sE.1 (by rw [pre_size hm]; exact Nat.le_of_lt hE) (fun x h1 h2 => ?_) (Or.inr ?_)
  · have h2' : x < cutE s a := h2
    rw [pre_byt hm (by omega)]; exact sE.2.2.1 x h1 h2
  · have : byt (s.extract 0 m) (scan blk s (scan ink s a)) = byt s (scan blk s (scan ink s a)) := pre_byt hm hE
    rw [this]
    rcases sE.2.2.2 with e | e
    · exact absurd e (by unfold cutE at hE; omega)
    · exact e

theorem CutAt.cuts (h : CutAt s m) {b : Nat} (hb : b ≤ m - 2) : cutB s b ≤ m - 2 ∧ cutB s b < cutE s b ∧ cutE s b ≤ m - 1 := by
  have h1 := h.two; have h2 := h.le
  have e1 := cut_ink (s := s) (a := b) (by omega) hb (by omega) (by rw [h.semi]; rfl)
  exact ⟨e1, cutE_gt (by omega) (by omega), cutE_blk (by omega) (by omega) (by rw [h.bl]; rfl)⟩

theorem one_ext {i : Nat} (hi : i < s.size) {x : UInt8} (h : byt s i = x.toNat) : (s.extract i (i + 1)).toList = [x] := by
  have e : s.extract i (i + 1) = ⟨#[x]⟩ := by
    have hs : (s.extract i (i + 1)).size = 1 := by rw [ByteArray.size_extract]; omega
    apply ByteArray.ext
    apply Array.ext
    · exact hs
    · intro j h1 h2
      have hj : j = 0 := by have : j < 1 := h2; omega
      subst hj
      have hb := byt_ext s i (i + 1) 0 (by omega) (by omega)
      have h3 := byt_eq (s.extract i (i + 1)) 0 (by omega)
      have h4 : ((s.extract i (i + 1))[0]'(by omega)).toNat = x.toNat := by rw [h3, hb]; exact h
      exact UInt8.toNat_inj.1 h4
  rw [e]
  exact ba_list [x]

theorem CutAt.pre (h : CutAt s m) (h92 : ∀ i, i < s.size → byt s i ≠ 92) : Reads s (s.extract 0 m) 0 (fun b => b ≤ m - 2) (fun b => b ≤ m - 1) := by
  have h1 := h.two; have h2 := h.le
  have hp : ∀ b, b ≤ m - 2 → nx (s.extract 0 m) b = nx s b ∧ nx s b = (s.extract (cutB s b) (cutE s b), cutB s b, cutE s b) := fun b hb => by
    obtain ⟨c1, c2, c3⟩ := h.cuts hb
    obtain ⟨e1, e2⟩ := pre_cut h2 (a := b) (by omega) (by omega) (by omega)
    have n1 := nx_plain (pre_no h2 h92) ((s.extract 0 m).size - b) b (by rw [pre_size h2]; omega)
    have n2 := nx_plain h92 (s.size - b) b (by omega)
    refine ⟨?_, n2⟩
    show nextF _ _ _ = nextF _ _ _
    rw [n1, n2, e1, e2, ByteArray.extract_extract]
    rw [show min (0 + cutE s b) m = cutE s b by omega, Nat.zero_add]
  refine ⟨fun b hb => ?_, fun b hb hne h59 => ?_, fun b hb h59 => ?_, fun b hb => by omega, fun b hb hne => ?_, fun b hb => ?_⟩
  · rw [(hp b hb).1]; exact ⟨rfl, rfl⟩
  · rw [(hp b hb).1, (hp b hb).2] at h59 ⊢
    simp only at h59 ⊢
    obtain ⟨c1, c2, c3⟩ := h.cuts hb
    by_cases e : cutB s b = m - 2
    · exfalso
      have e2 : cutE s b = m - 2 + 1 := by omega
      rw [e, e2, one_ext (x := 59) (by omega) (by rw [h.semi]; rfl)] at h59
      exact absurd h59 (by decide)
    · rcases h.own with e3 | e3
      · omega
      · have := cutB_ink (s := s) (a := b) (by omega) (by omega)
        have hne3 : cutB s b ≠ m - 3 := fun e4 => by rw [e4, e3] at this; cases this
        have := cutE_blk (s := s) (a := b) (by omega) (i := m - 3) (by omega) (by rw [e3]; rfl)
        omega
  · rw [(hp b hb).1, (hp b hb).2]
    exact (h.cuts hb).2.2
  · refine Classical.byContradiction fun hb2 => ?_
    obtain rfl : b = m - 1 := by omega
    have e1 : cutB (s.extract 0 m) (m - 1) = m := by
      refine scan_eq (by omega) (by rw [pre_size h2]; exact Nat.le_refl _) (fun x a1 a2 => ?_) (Or.inl (pre_size h2).symm)
      obtain rfl : x = m - 1 := by omega
      rw [pre_byt h2 (by omega), h.bl]; rfl
    have e2 : cutE (s.extract 0 m) (m - 1) = m := by
      obtain ⟨l1, l2, l3⟩ := cut_le (s.extract 0 m) (m - 1) (by rw [pre_size h2]; omega)
      rw [pre_size h2] at l3
      omega
    have n1 := nx_plain (pre_no h2 h92) ((s.extract 0 m).size - (m - 1)) (m - 1) (by rw [pre_size h2]; omega)
    rw [show nx (s.extract 0 m) (m - 1) = _ from n1, e1, e2] at hne
    simp only [ext_empty] at hne
    rw [show (⟨#[]⟩ : ByteArray).toList = [] from ba_list []] at hne
    cases hne
  · rw [pre_size h2]; omega

theorem suf_size (hm : m ≤ s.size) : (s.extract m s.size).size = s.size - m := by rw [ByteArray.size_extract]; omega
theorem suf_scan (p : Nat → Bool) (hm : m ≤ s.size) {b : Nat} (hb : b ≤ (s.extract m s.size).size) : scan p (s.extract m s.size) b + m = scan p s (b + m) := by
  have sB := scan_spec p (s.extract m s.size) b hb
  rw [suf_size hm] at sB hb
  symm
  refine scan_eq (by omega) (by omega) (fun x h1 h2 => ?_) ?_
  · have := sB.2.2.1 (x - m) (by omega) (by omega)
    rw [byt_extract s m (x - m) (by omega), show m + (x - m) = x by omega] at this
    exact this
  · rcases sB.2.2.2 with e | e
    · left; omega
    · by_cases hh : scan p (s.extract m s.size) b = s.size - m
      · left; omega
      · right
        rw [byt_extract s m _ (by omega), Nat.add_comm] at e
        exact e
theorem suf_reads (hm : m ≤ s.size) (h92 : ∀ i, i < s.size → byt s i ≠ 92) : Reads s (s.extract m s.size) m (fun b => b ≤ (s.extract m s.size).size) (fun b => b ≤ (s.extract m s.size).size) := by
  have hsz := suf_size (s := s) hm
  have hn : ∀ i, i < (s.extract m s.size).size → byt (s.extract m s.size) i ≠ 92 := fun i hi => by
    rw [byt_extract s m i (by omega)]
    exact h92 _ (by omega)
  have hp : ∀ b, b ≤ (s.extract m s.size).size → nx (s.extract m s.size) b = ((s.extract m s.size).extract (cutB (s.extract m s.size) b) (cutE (s.extract m s.size) b), cutB (s.extract m s.size) b, cutE (s.extract m s.size) b) := fun b hb => nx_plain hn _ b hb
  refine ⟨fun b hb => ?_, fun b hb hne h59 => ?_, fun b hb h59 => ?_, fun b hb => hb, fun b hb hne => hb, fun b hb => hb⟩
  · obtain ⟨l1, l2, l3⟩ := cut_le _ _ hb
    have e1 : cutB (s.extract m s.size) b + m = cutB s (b + m) := suf_scan ink hm hb
    have e2 : cutE (s.extract m s.size) b + m = cutE s (b + m) := by
      have := suf_scan (s := s) blk hm (b := cutB (s.extract m s.size) b) (by omega)
      rw [e1] at this
      exact this
    rw [hp b hb, show nx s (b + m) = _ from nx_plain h92 (s.size - (b + m)) (b + m) (by omega)]
    simp only
    refine ⟨?_, e2⟩
    rw [ByteArray.extract_extract, ← e1, ← e2, show min (m + cutE (s.extract m s.size) b) s.size = cutE (s.extract m s.size) b + m by omega, Nat.add_comm m]
  · rw [hp b hb]; exact (cut_le _ _ hb).2.2
  · rw [hp b hb]; exact (cut_le _ _ hb).2.2

theorem loadP_ok : ∀ (f a : Nat) (es : List PE) (nv nt : Int) (code : List Int), (loadP s f a es nv nt code).1.1 = 0 → (loadP s f a es nv nt code).1 = (0, 0) := by
  intro f
  induction f with
  | zero => intro a es nv nt code h; rw [loadP] at h; exact absurd (show (99 : Int) = 0 from h) (by decide)
  | succ f ih =>
    intro a es nv nt code h
    rw [loadP] at h ⊢
    split at h
    · rename_i h1; rw [if_pos h1]
    · rename_i h1
      rw [if_neg h1]
      split at h
      · rename_i h2
        rw [if_pos h2]
        split at h
        · rename_i h3; rw [if_pos h3]; exact ih _ _ _ _ _ h
        · rename_i h3; exact absurd h h3
      · rename_i h2
        rw [if_neg h2]
        split at h
        · rename_i h2'
          rw [if_pos h2']
          split at h
          · rename_i h3; rw [if_pos h3]; exact ih _ _ _ _ _ h
          · rename_i h3; exact absurd h h3
        · exact absurd (show (3 : Int) = 0 from h) (by decide)
theorem loadP_at {a a' : Nat} (h : nx s a = nx s a') (f : Nat) (es : List PE) (nv nt : Int) (code : List Int) : loadP s f a es nv nt code = loadP s f a' es nv nt code := by
  cases f with
  | zero => rfl
  | succ f => rw [loadP, loadP, h]

theorem bad_ascii {t : ByteArray} (h : ∀ i, i < t.size → byt t i < 128) : ∀ (f i : Nat), badF t f i = none := by
  intro f
  induction f with
  | zero => intro i; rfl
  | succ f ih =>
    intro i
    rw [badF]
    by_cases hi : i < t.size
    · rw [if_pos hi, if_neg, ih]
      rw [bad_wd t i hi]
      unfold wd
      rw [if_pos (h i hi)]
      decide
    · rw [if_neg hi]

theorem load_two (h : CutAt s m) (h92 : ∀ i, i < s.size → byt s i ≠ 92 ∧ byt s i < 128) (es : List PE) (nv nt : Int) (code : List Int) (hok : (loadR s es nv nt code).1.1 = 0) :
    (loadR (s.extract 0 m) es nv nt code).1.1 = 0 ∧ loadR (s.extract m s.size) (loadR (s.extract 0 m) es nv nt code).2.1 (loadR (s.extract 0 m) es nv nt code).2.2.1 (loadR (s.extract 0 m) es nv nt code).2.2.2.1 (loadR (s.extract 0 m) es nv nt code).2.2.2.2 = loadR s es nv nt code := by
  have h1 := h.two; have h2 := h.le
  have hno : ∀ i, i < s.size → byt s i ≠ 92 := fun i hi => (h92 i hi).1
  have b0 : badF s s.size 0 = none := bad_ascii (fun i hi => (h92 i hi).2) _ _
  have b1 : badF (s.extract 0 m) (s.extract 0 m).size 0 = none := bad_ascii (fun i hi => by rw [pre_size h2] at hi; rw [pre_byt h2 hi]; exact (h92 i (by omega)).2) _ _
  have b2 : badF (s.extract m s.size) (s.extract m s.size).size 0 = none := bad_ascii (fun i hi => by rw [suf_size h2] at hi; rw [byt_extract s m i (by omega)]; exact (h92 _ (by omega)).2) _ _
  unfold loadR at hok ⊢
  simp only [b0, b1, b2] at hok ⊢
  obtain ⟨R, hR⟩ : ∃ R, R = (loadP s (s.size + 1) 0 es nv nt code).2 := ⟨_, rfl⟩
  have hall : loadP s (s.size + 1) 0 es nv nt code = ((0, 0), R) := by rw [hR]; exact Prod.ext (loadP_ok _ _ _ _ _ _ hok) rfl
  obtain ⟨p1, f1, es1, nv1, nt1, code1, c1, c2, c3, c4, c5⟩ := loadP_sim (h.pre hno) (s.size + 1) 0 es nv nt code R (Nat.zero_le _) hall
  rw [c5 _ (by rw [pre_size h2]; omega)]
  refine ⟨rfl, ?_⟩
  simp only
  have hp1 : p1 = m - 1 := by
    refine Classical.byContradiction fun hne => ?_
    have hb : p1 ≤ m - 2 := by omega
    obtain ⟨d1, d2, d3⟩ := h.cuts hb
    have n1 := ((h.pre hno).nx p1 hb).1
    rw [Nat.add_zero, show nx s p1 = _ from nx_plain hno (s.size - p1) p1 (by omega)] at n1
    simp only at n1
    rw [n1, ext_some d2 (by omega)] at c2
    cases c2
  subst hp1
  have hcut : cutB s (m - 1) = cutB s m := by
    have sB := scan_spec ink s m h2
    refine scan_eq (by have := sB.1; unfold cutB; omega) sB.2.1 (fun x a1 a2 => ?_) sB.2.2.2
    by_cases e : x = m - 1
    · rw [e, h.bl]; rfl
    · exact sB.2.2.1 x (by omega) a2
  have hnx : nx s (m - 1 + 0) = nx s (0 + m) := by
    rw [Nat.add_zero, Nat.zero_add]
    rw [show nx s (m - 1) = _ from nx_plain hno (s.size - (m - 1)) (m - 1) (by omega), show nx s m = _ from nx_plain hno (s.size - m) m h2]
    have hE : cutE s (m - 1) = cutE s m := by
      show scan blk s (cutB s (m - 1)) = scan blk s (cutB s m)
      rw [hcut]
    rw [hcut, hE]
  rw [loadP_at hnx] at c3
  obtain ⟨q1, f2, es2, nv2, nt2, code2, g1, g2, g3, g4, g5⟩ := loadP_sim (suf_reads h2 hno) f1 0 es1 nv1 nt1 code1 R (Nat.zero_le _) c3
  rw [g5 _ (by omega), hall]
  have n1 := ((suf_reads h2 hno).nx q1 g1).1
  rw [n1] at g2
  cases f2 with
  | zero => rw [loadP] at g3; injection g3 with g3 _; injection g3 with g3 _; exact absurd g3 (by decide)
  | succ f2 =>
    rw [loadP, if_pos g2] at g3
    exact g3
end

end Go.Proofs.YtcphhbofjkenaaaGreatDoor

namespace Go.Proofs.YtcphhbofjkenaaaGreatDoor
open Go Go.RowKit
set_option linter.unusedVariables false
set_option linter.unusedSimpArgs false

def badT : ByteArray := ⟨#[58, 32, 98, 97, 100, 32, 49, 32, 108, 111, 111, 112, 32]⟩
theorem badT_size : badT.size = 13 := rfl

section
variable {s : ByteArray}

theorem badF_ge : ∀ (f i k : Nat), badF s f i = some k → i ≤ k
  | 0, i, k, h => by cases h
  | f + 1, i, k, h => by
    rw [badF] at h
    split at h
    · split at h
      · injection h with h; omega
      · have := badF_ge f _ k h; omega
    · cases h
theorem badF_skip : ∀ (n f i : Nat), (∀ j, i ≤ j → j < i + n → j < s.size ∧ byt s j < 128) → badF s (f + n) i = badF s f (i + n)
  | 0, f, i, _ => rfl
  | n + 1, f, i, h => by
    obtain ⟨h1, h2⟩ := h i (Nat.le_refl _) (by omega)
    rw [show f + (n + 1) = f + n + 1 by omega, badF, if_pos h1, if_neg, decode_lo s i h2]
    · simp only
      rw [badF_skip n f (i + 1) (fun j a b => h j (by omega) (by omega)), show i + 1 + n = i + (n + 1) by omega]
    · rw [bad_wd s i h1]
      unfold wd
      rw [if_pos h2]
      decide
end

section
variable (t : ByteArray)

theorem bad_size : (badT ++ t).size = 13 + t.size := by rw [ByteArray.size_append]; rfl
theorem bad_ext {b e : Nat} (h : e ≤ 13) : (badT ++ t).extract b e = badT.extract b e := by
  rw [ByteArray.extract_append]
  have : t.extract (b - badT.size) (e - badT.size) = ⟨#[]⟩ := by
    apply ByteArray.size_eq_zero_iff.1
    rw [ByteArray.size_extract, badT_size]; omega
  rw [this]
  exact ByteArray.append_empty
theorem bad_byt {i : Nat} (h : i < 13) : byt (badT ++ t) i = byt badT i := by
  have h1 := byt_ext (badT ++ t) 0 13 i (by rw [bad_size]; omega) (by omega)
  rw [bad_ext t (by omega), Nat.zero_add] at h1
  rw [← h1]; rfl

theorem bad_tok (a b e : Nat) (h1 : a ≤ b) (h2 : b < e) (h3 : e < 13) (hB : ∀ x, x < 13 → a ≤ x → x < b → blk (byt badT x) = true) (hE : ∀ x, x < 13 → b ≤ x → x < e → blk (byt badT x) = false) (he : blk (byt badT e) = true) (hn : ((badT.extract b e).toList == [92]) = false) :
    nx (badT ++ t) a = (badT.extract b e, b, e) := by
  have hs := bad_size t
  have eB : cutB (badT ++ t) a = b := by
    refine scan_eq h1 (by omega) (fun x a1 a2 => ?_) (Or.inr ?_)
    · unfold ink; rw [bad_byt t (by omega), hB x (by omega) a1 a2]; rfl
    · unfold ink; rw [bad_byt t (by omega), hE b (by omega) (Nat.le_refl _) h2]; rfl
  have eE : cutE (badT ++ t) a = e := by
    unfold cutE
    rw [show scan ink (badT ++ t) a = b from eB]
    refine scan_eq (Nat.le_of_lt h2) (by omega) (fun x a1 a2 => ?_) (Or.inr ?_)
    · rw [bad_byt t (by omega)]; exact hE x (by omega) a1 a2
    · rw [bad_byt t (by omega)]; exact he
  show nextF _ _ _ = _
  cases hf : (badT ++ t).size - a with
  | zero => rw [nextF, eB, eE, bad_ext t (by omega)]
  | succ f => rw [nextF, eB, eE, bad_ext t (by omega), if_neg (by rw [hn]; exact Bool.false_ne_true)]

theorem bad0 : nx (badT ++ t) 0 = (⟨#[58]⟩, 0, 1) := bad_tok t 0 0 1 (by decide) (by decide) (by decide) (by decide +kernel) (by decide +kernel) (by decide +kernel) (by decide +kernel)
theorem bad1 : nx (badT ++ t) 1 = (⟨#[98, 97, 100]⟩, 2, 5) := bad_tok t 1 2 5 (by decide) (by decide) (by decide) (by decide +kernel) (by decide +kernel) (by decide +kernel) (by decide +kernel)
theorem bad5 : nx (badT ++ t) 5 = (⟨#[49]⟩, 6, 7) := bad_tok t 5 6 7 (by decide) (by decide) (by decide) (by decide +kernel) (by decide +kernel) (by decide +kernel) (by decide +kernel)
theorem bad7 : nx (badT ++ t) 7 = (⟨#[108, 111, 111, 112]⟩, 8, 12) := bad_tok t 7 8 12 (by decide) (by decide) (by decide) (by decide +kernel) (by decide +kernel) (by decide +kernel) (by decide +kernel)

theorem stepP_one {es : List PE} {nt tk : Int} {dc : List Int} {b : PB} {r : List PB} {kn : Inf} : ∃ x : PB, x.opener = b.opener ∧ stepP es nt tk dc (b :: r) kn ⟨#[49]⟩ = (0, dc ++ [28, 1], x :: r, kn) := by
  refine ⟨{ b.add (opInf 28) with numbers := min (b.numbers + 1) 2, a0 := b.a1, a1 := 1 }, rfl, ?_⟩
  unfold stepP
  simp only
  rw [if_neg (by decide +kernel), if_neg (by decide +kernel), if_neg (by decide +kernel), if_neg (by decide +kernel), if_neg (by decide +kernel), if_neg (by decide +kernel), if_neg (by decide +kernel), if_neg (by decide +kernel), if_neg (by decide +kernel), if_pos (by decide +kernel)]
  rw [show (numP ⟨#[49]⟩).1 = 1 by decide +kernel]
theorem stepP_loop {es : List PE} {nt tk : Int} {dc : List Int} {b : PB} {r : List PB} {kn : Inf} (h : b.opener = 34) : stepP es nt tk dc (b :: r) kn ⟨#[108, 111, 111, 112]⟩ = (5, dc, b :: r, kn) := by
  unfold stepP
  simp only
  rw [if_neg (by decide +kernel), if_neg (by decide +kernel), if_neg (by decide +kernel), if_neg (by decide +kernel), if_neg (by decide +kernel), if_neg (by decide +kernel), if_neg (by decide +kernel), if_neg (by decide +kernel), if_pos (by decide +kernel), if_neg (by rw [h]; decide)]

theorem load_bad (es : List PE) (nv nt : Int) (code : List Int) (hl : es.length ≠ 40) : (∃ k : Nat, 13 ≤ k ∧ loadR (badT ++ t) es nv nt code = ((2, (k : Int)), es, nv, nt, code)) ∨ loadR (badT ++ t) es nv nt code = ((5, 8), es, nv, nt, code) := by
  have hs := bad_size t
  have hsk : badF (badT ++ t) (badT ++ t).size 0 = badF (badT ++ t) t.size 13 := by
    rw [hs, Nat.add_comm]
    exact badF_skip 13 t.size 0 (fun j _ h => ⟨by omega, by rw [bad_byt t (by omega)]; exact (show ∀ j, j < 13 → byt badT j < 128 by decide +kernel) j (by omega)⟩)
  unfold loadR
  cases hb : badF (badT ++ t) (badT ++ t).size 0 with
  | some k => exact Or.inl ⟨k, by rw [hsk] at hb; exact badF_ge _ _ _ hb, rfl⟩
  | none =>
    right
    simp only
    obtain ⟨n, hn⟩ : ∃ n, n = (badT ++ t).size := ⟨_, rfl⟩
    have hw : wordP es nt code (badT ++ t) 1 = ((5, 8), es, nt, code, 0) := by
      unfold wordP
      rw [bad1]
      simp only
      have hr : refP es ⟨#[98, 97, 100]⟩ = 0 := by
        unfold refP
        rw [if_pos (by decide +kernel), if_neg hl]
      rw [if_pos hr]
      obtain ⟨x, h1, h2⟩ := stepP_one (es := es) (nt := nt) (tk := 2 + 1) (dc := code) (b := PB.first) (r := []) (kn := Inf.zero)
      rw [defP, bad5]
      simp only
      rw [h2]
      simp only [if_true]
      rw [← hn, show n + 1 = (n + 1 - 1) + 1 by omega, defP, bad7]
      simp only
      rw [stepP_loop (b := x) (by rw [h1]; rfl)]
      simp only
      rw [if_neg (by decide)]
      rfl
    rw [loadP, bad0]
    simp only
    rw [if_neg (by decide +kernel), if_neg (by decide +kernel), if_pos (by decide +kernel), hw, if_neg (by simp)]
end

end Go.Proofs.YtcphhbofjkenaaaGreatDoor

namespace Go.Proofs.YtcphhbofjkenaaaGreatDoor
open Go Go.RowKit
set_option linter.unusedVariables false
set_option linter.unusedSimpArgs false

section
variable (T t : ByteArray)
theorem hdT_ext {b e : Nat} (h : e ≤ T.size) : (T ++ t).extract b e = T.extract b e := by
  rw [ByteArray.extract_append]
  have : t.extract (b - T.size) (e - T.size) = ⟨#[]⟩ := by
    apply ByteArray.size_eq_zero_iff.1
    rw [ByteArray.size_extract]; omega
  rw [this]
  exact ByteArray.append_empty
theorem hdT_byt {i : Nat} (h : i < T.size) : byt (T ++ t) i = byt T i := by
  have h1 := byt_ext (T ++ t) 0 T.size i (by rw [ByteArray.size_append]; omega) (by omega)
  rw [hdT_ext T t (Nat.le_refl _), Nat.zero_add, ByteArray.extract_zero_size] at h1
  exact h1.symm
theorem hdT_tok (a b e : Nat) (h1 : a ≤ b) (h2 : b < e) (h3 : e < T.size) (hB : ∀ x, x < T.size → a ≤ x → x < b → blk (byt T x) = true) (hE : ∀ x, x < T.size → b ≤ x → x < e → blk (byt T x) = false) (he : blk (byt T e) = true) (hn : ((T.extract b e).toList == [92]) = false) :
    nx (T ++ t) a = (T.extract b e, b, e) := by
  have hs : (T ++ t).size = T.size + t.size := ByteArray.size_append
  have eB : cutB (T ++ t) a = b := by
    refine scan_eq h1 (by omega) (fun x a1 a2 => ?_) (Or.inr ?_)
    · unfold ink; rw [hdT_byt T t (by omega), hB x (by omega) a1 a2]; rfl
    · unfold ink; rw [hdT_byt T t (by omega), hE b (by omega) (Nat.le_refl _) h2]; rfl
  have eE : cutE (T ++ t) a = e := by
    unfold cutE
    rw [show scan ink (T ++ t) a = b from eB]
    refine scan_eq (Nat.le_of_lt h2) (by omega) (fun x a1 a2 => ?_) (Or.inr ?_)
    · rw [hdT_byt T t (by omega)]; exact hE x (by omega) a1 a2
    · rw [hdT_byt T t (by omega)]; exact he
  show nextF _ _ _ = _
  cases hf : (T ++ t).size - a with
  | zero => rw [nextF, eB, eE, hdT_ext T t (by omega)]
  | succ f => rw [nextF, eB, eE, hdT_ext T t (by omega), if_neg (by rw [hn]; exact Bool.false_ne_true)]
end

def oneT : ByteArray := ⟨#[49, 32]⟩
theorem load_one (t : ByteArray) (es : List PE) (nv nt : Int) (code : List Int) : (loadR (oneT ++ t) es nv nt code).2 = (es, nv, nt, code) := by
  unfold loadR
  cases badF (oneT ++ t) (oneT ++ t).size 0 with
  | some k => rfl
  | none =>
    simp only
    have h0 : nx (oneT ++ t) 0 = (⟨#[49]⟩, 0, 1) := hdT_tok oneT t 0 0 1 (by decide) (by decide) (by decide) (by decide +kernel) (by decide +kernel) (by decide +kernel) (by decide +kernel)
    rw [loadP, h0]
    simp only
    rw [if_neg (by decide +kernel), if_neg (by decide +kernel), if_neg (by decide +kernel)]

def ifT : ByteArray := ⟨#[58, 32, 105, 102, 32, 59]⟩
theorem load_if (es : List PE) (nv nt : Int) (code : List Int) : (loadR ifT es nv nt code).2 = (es, nv, nt, code) := by
  have hb : badF ifT ifT.size 0 = none := by decide +kernel
  have h0 : nx ifT 0 = (⟨#[58]⟩, 0, 1) := by kernel_rfl
  have h1 : nx ifT 1 = (⟨#[105, 102]⟩, 2, 4) := by kernel_rfl
  have hr : refP es ⟨#[105, 102]⟩ = 4 := by
    unfold refP
    rw [if_neg (by decide +kernel)]
  unfold loadR
  rw [hb]
  simp only
  rw [loadP, h0]
  simp only
  rw [if_neg (by decide +kernel), if_neg (by decide +kernel), if_pos (by decide +kernel)]
  have hw : wordP es nt code ifT 1 = ((4, 2), es, nt, code, 0) := by
    unfold wordP
    rw [h1]
    simp only
    rw [hr, if_neg (by decide)]
    rfl
  rw [hw, if_neg (by simp)]

theorem load_bad2 (t : ByteArray) (es : List PE) (nv nt : Int) (code : List Int) : (loadR (badT ++ t) es nv nt code).2 = (es, nv, nt, code) := by
  by_cases hl : es.length = 40
  · unfold loadR
    cases badF (badT ++ t) (badT ++ t).size 0 with
    | some k => rfl
    | none =>
      simp only
      have hw : wordP es nt code (badT ++ t) 1 = ((8, 2), es, nt, code, 0) := by
        unfold wordP
        rw [bad1]
        simp only
        have hr : refP es ⟨#[98, 97, 100]⟩ = 8 := by
          unfold refP
          rw [if_pos (by decide +kernel), if_pos hl]
        rw [hr, if_neg (by decide)]
        rfl
      rw [loadP, bad0]
      simp only
      rw [if_neg (by decide +kernel), if_neg (by decide +kernel), if_pos (by decide +kernel), hw, if_neg (by simp)]
  · rcases load_bad t es nv nt code hl with ⟨k, _, e⟩ | e <;> rw [e]

end Go.Proofs.YtcphhbofjkenaaaGreatDoor

namespace Go.Proofs.YtcphhbofjkenaaaGreatDoor
open Go Go.RowKit
set_option linter.unusedVariables false
set_option linter.unusedSimpArgs false
set_option linter.unnecessarySimpa false

theorem Tryz.infoStr : (Tryz.prog.info? 9).map (fun i => (i.zero, i.size, i.bytes)) = some (some (.string ByteArray.empty), 1, 16) := by kernel_rfl

set_option maxRecDepth 100000 in
set_option maxHeartbeats 4000000 in
theorem book_words {w : World} {bb : Nat} {ev cv : Value} {es : List PE} {nv nt : Int} {code : List Int} (h : PSys w bb ev cv es nv nt code) (hl : es.length ≤ 1000) (ht : Tab w) :
    Calls Tryz.prog 61 #[.pointer (some ⟨bb, 0, none⟩)] w fun e w' => ∃ g, e = .returned (.slice (some ⟨g, 0, none⟩) es.length es.length) ∧ w.heap.size ≤ g ∧ w'.rowIs g 9 es.length (fun i => .string (es.getD i PE.zero).name) ∧ Below w.heap.size w w' := by
  have c0 : w.cell? ⟨bb, 0, none⟩ = some ev := h.blk.cell 0 _ rfl
  have hlt := h.blk.lt
  obtain ⟨ad, cap, hev, hcap, hrow⟩ := row_shape h.row
  rw [hev] at c0
  have HP := hidden h; have HT := hidden ht
  have hmk := run_make_row' (P := Tryz.prog) 71 9 (.string ByteArray.empty) 16 Tryz.underlying71 Tryz.infoStr rfl .i64 .i64 es.length (by omega) (by omega)
  clear h ht
  go_enter Tryz.func61, Tryz.ntmps61
  go_wp2_with fail
  have hr0 := w.rowIs_made (.string ByteArray.empty) es.length 9
  have hb0 : Below w.heap.size w (w.alloc (.cells (madeCells #[.string ByteArray.empty] es.length) 9 (0, 0))) := (Below.refl _ _).alloc (Nat.le_refl _) _
  obtain ⟨H, hH⟩ : ∃ H, H = w.heap.size := ⟨_, rfl⟩
  rw [← hH] at hr0 hb0 ⊢
  have HR0 := hidden hr0; have HB0 := hidden hb0; have HHH := hidden hH
  clear hr0 hb0 hmk hH
  go_loopw [17] (fun i wr => ∃ k : Nat, k ≤ es.length ∧ i = .int .i64 k ∧ Hid (wr.rowIs H 9 es.length (fun j => .string (if j < k then (es.getD j PE.zero).name else ByteArray.empty))) ∧ Hid (Below H w wr)) (fun i _ => es.length - (intOf i).toNat)
  case atStart => exact ⟨0, Nat.zero_le _, rfl, hidden (HR0.out.congr (fun i hi => by simp)), HB0⟩
  case round =>
    clear HR0 HB0
    obtain ⟨k, hk, rfl, HRW, HBW⟩ := hrel
    have hHl := HRW.out.lt
    by_cases hz : k < es.length
    · obtain ⟨x, hx⟩ : ∃ x, x = es.getD k PE.zero := ⟨_, rfl⟩
      have hps := HP.out.below (by rw [← HHH.out]; exact HBW.out)
      obtain ⟨g, cap', hve, _, hg, hcell⟩ := pe_cells hps k hz
      rw [hev] at hve
      obtain ⟨rfl, rfl⟩ : ad = some ⟨g, 0, none⟩ ∧ cap = cap' := by simpa using hve
      rw [← hx] at hcell
      have d0 : wr.cell? ⟨g, k * 8, none⟩ = some (.string x.name) := by simpa [PE.cells] using hcell 0 (by omega)
      have d1 : wr.cell? ⟨g, k * 8 + 1, none⟩ = some (.bool x.var) := by simpa [PE.cells] using hcell 1 (by omega)
      have d2 : wr.cell? ⟨g, k * 8 + 2, none⟩ = some (.int .i64 x.place) := by simpa [PE.cells] using hcell 2 (by omega)
      have d3 : wr.cell? ⟨g, k * 8 + 3, none⟩ = some (.int .i64 x.inf.need) := by simpa [PE.cells] using hcell 3 (by omega)
      have d4 : wr.cell? ⟨g, k * 8 + 4, none⟩ = some (.int .i64 x.inf.net) := by simpa [PE.cells] using hcell 4 (by omega)
      have d5 : wr.cell? ⟨g, k * 8 + 5, none⟩ = some (.int .i64 x.inf.high) := by simpa [PE.cells] using hcell 5 (by omega)
      have d6 : wr.cell? ⟨g, k * 8 + 6, none⟩ = some (.int .i64 x.inf.steps) := by simpa [PE.cells] using hcell 6 (by omega)
      have d7 : wr.cell? ⟨g, k * 8 + 7, none⟩ = some (.bool (!x.inf.str)) := by simpa [PE.cells] using hcell 7 (by omega)
      have q0 := HRW.out.cell hz
      have q1 := HRW.out.frozen k
      have HX := hidden hx
      clear hx hps hcell hve
      go_wp2_with fail
      go_roundw
      case rel =>
        refine ⟨k + 1, by omega, by go_num, hidden (((HRW.out.set k (.string x.name)).alloc _).congr (fun i hi => ?_)), hidden ((HBW.out.setCell (Nat.le_refl _) _).alloc (by have := HBW.out.size; simp [World.setCell]; omega) _)⟩
        by_cases e : i = k
        · subst e
          rw [if_pos rfl, if_pos (by omega), HX.out]
        · rw [if_neg e]
          by_cases e2 : i < k
          · rw [if_pos e2, if_pos (by omega)]
          · rw [if_neg e2, if_neg (by omega)]
      case measure => simp [intOf]; omega
    · obtain rfl : k = es.length := by omega
      go_wp2_with fail
      have hrw := HRW.out.congr (g := fun i => .string (es.getD i PE.zero).name) (fun i hi => by rw [if_pos hi])
      exact bodyPost_ret (v := .slice (some ⟨H, 0, none⟩) es.length es.length) (by simp [results, Tryz.results61, go_sem]) rfl ⟨H, rfl, by rw [HHH.out]; exact Nat.le_refl _, hrw, by have := HBW.out; rw [HHH.out] at this; exact this⟩

theorem forth_words {w : World} {bb : Nat} {ev cv : Value} {es : List PE} {nv nt : Int} {code : List Int} (h : PSys w bb ev cv es nv nt code) (hl : es.length ≤ 1000) (ht : Tab w) :
    Calls Tryz.prog 32 #[.pointer (some ⟨bb, 0, none⟩)] w fun e w' => ∃ g, e = .returned (.slice (some ⟨g, 0, none⟩) es.length es.length) ∧ w.heap.size ≤ g ∧ w'.rowIs g 9 es.length (fun i => .string (es.getD i PE.zero).name) ∧ Below w.heap.size w w' := by
  have H := hidden (book_words h hl ht)
  have hb := h.blk.lt
  clear h ht
  go_enter Tryz.func32, Tryz.ntmps32
  go_wp2_with fail
  refine (forth_book bb _).mono ?_
  rintro e w' ⟨rfl, rfl⟩
  go_wp2_with fail
  refine H.out.mono ?_
  rintro e w' ⟨g, rfl, h1, h2, h3⟩
  have HH := hidden (And.intro h1 (And.intro h2 h3))
  clear H h1 h2 h3
  go_wp2_with fail
  exact bodyPost_ret (v := .slice (some ⟨g, 0, none⟩) es.length es.length) (by simp [results, Tryz.results32, go_sem]) rfl ⟨g, rfl, HH.out⟩

end Go.Proofs.YtcphhbofjkenaaaGreatDoor
