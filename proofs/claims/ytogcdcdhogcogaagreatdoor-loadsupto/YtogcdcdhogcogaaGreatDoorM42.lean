/- The tokens one by one are the document's tokens. -/
import Derived.Test.YtogcdcdhogcogaaGreatDoorM13
import Derived.Test.YtogcdcdhogcogaaGreatDoorM25
import Derived.Test.YtogcdcdhogcogaaGreatDoorM27
import Derived.Test.YtogcdcdhogcogaaGreatDoorM31
import Derived.Test.YtogcdcdhogcogaaGreatDoorM39
import Derived.Test.YtogcdcdhogcogaaGreatDoorM40
import Derived.Test.YtogcdcdhogcogaaGreatDoorM41

namespace Go.Proofs.YtogcdcdhogcogaaGreatDoor
open Go

theorem toks_skip (s : ByteArray) : ∀ (d a m : Nat), m = a + d → m ≤ s.size → (∀ x, a ≤ x → x < m → blk (byt s x) = true) → toksAt s a = toksAt s m
  | 0, a, m, h, _, _ => by rw [h]; rfl
  | d + 1, a, m, h, hm, hb => by
    rw [toksAt_blank s a (by omega) (hb a (Nat.le_refl _) (by omega))]
    exact toks_skip s d (a + 1) m (by omega) hm (fun x h1 h2 => hb x (by omega) h2)

theorem ext_empty (s : ByteArray) (k : Nat) : s.extract k k = ⟨#[]⟩ := by
  have hsz : (s.extract k k).size = 0 := by simp
  exact ByteArray.size_eq_zero_iff.1 hsz
theorem ext_list (s : ByteArray) (l : List UInt8) : (s.toList == l) = true ↔ s = ⟨l.toArray⟩ := by
  constructor
  · intro h
    have h1 : s.data.toList = l := by rw [← ba_data]; simpa using h
    rw [← h1]
  · rintro rfl
    rw [ba_list]; simp

theorem next_tok (s : ByteArray) : ∀ (f a : Nat), a ≤ s.size → s.size - a ≤ f →
    (toksAt s a = [] ∧ (nextF s f a).1 = ⟨#[]⟩) ∨ (toksAt s a = ((nextF s f a).1, (nextF s f a).2.1) :: toksAt s (nextF s f a).2.2 ∧ ((nextF s f a).1.toList == []) = false) := by
  have main : ∀ a, a ≤ s.size → toksAt s a = toksAt s (cutB s a) ∧ (cutB s a < s.size → blk (byt s (cutB s a)) = false) := fun a ha => by
    have hB := scan_spec ink s a ha
    refine ⟨toks_skip s (cutB s a - a) a (cutB s a) (by have := hB.1; unfold cutB; omega) hB.2.1 (fun x h1 h2 => ?_), fun h => ?_⟩
    · have := hB.2.2.1 x h1 h2
      unfold ink at this; simpa using this
    · rcases hB.2.2.2 with e | e
      · exact absurd e (by unfold cutB at h; omega)
      · have e' : (!blk (byt s (cutB s a))) = true := e
        simpa using e'
  have fin : ∀ a, a ≤ s.size → ¬ cutB s a < s.size → toksAt s a = [] ∧ s.extract (cutB s a) (cutE s a) = ⟨#[]⟩ := fun a ha h => by
    obtain ⟨l1, l2, l3⟩ := cut_le s a ha
    have e : cutE s a = cutB s a := by omega
    exact ⟨by rw [(main a ha).1]; exact toksAt_end s _ (by omega), by rw [e]; exact ext_empty s _⟩
  intro f
  induction f with
  | zero =>
    intro a ha hf
    obtain ⟨l1, l2, l3⟩ := cut_le s a ha
    left
    unfold nextF
    exact fin a ha (by omega)
  | succ f ih =>
    intro a ha hf
    obtain ⟨l1, l2, l3⟩ := cut_le s a ha
    unfold nextF
    by_cases hb : cutB s a < s.size
    · have hk := (main a ha).2 hb
      have hlt : cutB s a < cutE s a := scan_blk_lt s _ hb hk
      by_cases hn : ((s.extract (cutB s a) (cutE s a)).toList == [92]) = true
      · rw [if_pos hn]
        have hsp := scan_spec eol s (cutE s a) l3
        have e : toksAt s a = toksAt s (scan eol s (cutE s a)) := by
          rw [(main a ha).1, toksAt_note s _ hb hk ((ext_list _ _).1 hn)]; rfl
        rw [e]
        exact ih _ hsp.2.1 (by have := hsp.1; omega)
      · rw [if_neg hn]
        right
        refine ⟨?_, ?_⟩
        · rw [(main a ha).1, toksAt_tok s _ hb hk (fun e => hn ((ext_list _ _).2 e))]; rfl
        · cases hq : ((s.extract (cutB s a) (cutE s a)).toList == []) with
          | false => rfl
          | true =>
            exfalso
            have h1 := (ext_list _ _).1 hq
            have h2 : (s.extract (cutB s a) (cutE s a)).size = 0 := by rw [h1]; rfl
            rw [ByteArray.size_extract] at h2
            omega
    · obtain ⟨f1, f2⟩ := fin a ha hb
      left
      rw [f2, if_neg (by rw [show (⟨#[]⟩ : ByteArray).toList = [] from ba_list []]; decide)]
      exact ⟨f1, rfl⟩

end Go.Proofs.YtogcdcdhogcogaaGreatDoor

/- Each token that is read of a text that is not broken is not broken. -/
namespace Go.Proofs.YtogcdcdhogcogaaGreatDoor
open Go

theorem blk_lt {n : Nat} (h : blk n = true) : n < 128 := by
  unfold blk at h
  simp only [Bool.or_eq_true, beq_iff_eq] at h
  omega

theorem cut_sound {s : ByteArray} {a : Nat} (h : Sound s a) (ha : a ≤ s.size) : Sound s (cutE s a) ∧ badF (s.extract (cutB s a) (cutE s a)) (s.extract (cutB s a) (cutE s a)).size 0 = none := by
  obtain ⟨l1, l2, l3⟩ := cut_le s a ha
  have hB := scan_spec ink s a ha
  have hE := scan_spec blk s (cutB s a) (by omega)
  have sB : Sound s (cutB s a) := by
    by_cases e : cutB s a = a
    · rw [e]; exact h
    · have hp : (!blk (byt s (cutB s a - 1))) = false := hB.2.2.1 (cutB s a - 1) (by omega) (by have : cutB s a = scan ink s a := rfl; omega)
      have hb : byt s (cutB s a - 1) < 128 := blk_lt (by simpa using hp)
      have h1 : Sound s (cutB s a - 1) := Sound.at _ a (cutB s a - 1) (Nat.le_refl _) (by omega) h (fun _ => hb) (by omega)
      have h2 := (h1.step (by omega)).2
      rw [wd_one s _ hb, show cutB s a - 1 + 1 = cutB s a by omega] at h2
      exact h2
  have hend : cutE s a < s.size → byt s (cutE s a) < 128 := fun hl => by
    rcases hE.2.2.2 with e | e
    · have : cutE s a = scan blk s (cutB s a) := rfl
      omega
    · exact blk_lt e
  exact ⟨Sound.at _ (cutB s a) (cutE s a) (Nat.le_refl _) l2 sB hend l3, Sound.ext l2 l3 hend _ 0 (by rw [Nat.add_zero]; exact sB)⟩

theorem next_sound {s : ByteArray} : ∀ (f a : Nat), Sound s a → a ≤ s.size → badF (nextF s f a).1 (nextF s f a).1.size 0 = none ∧ Sound s (nextF s f a).2.2
  | 0, a, h, ha => by unfold nextF; exact ⟨(cut_sound h ha).2, (cut_sound h ha).1⟩
  | f + 1, a, h, ha => by
    obtain ⟨c1, c2⟩ := cut_sound h ha
    obtain ⟨l1, l2, l3⟩ := cut_le s a ha
    unfold nextF
    split
    · have hE := scan_spec eol s (cutE s a) l3
      refine next_sound f _ (Sound.at _ (cutE s a) _ (Nat.le_refl _) hE.1 c1 (fun hl => ?_) hE.2.1) hE.2.1
      rcases hE.2.2.2 with e | e
      · omega
      · have e' : (byt s (scan eol s (cutE s a)) == 10) = true := e
        rw [beq_iff_eq] at e'; omega
    · exact ⟨c2, c1⟩

/-- A token is a name of the program's where it is one of the document's. -/
theorem next_name {s : ByteArray} {a : Nat} (h : Sound s a) (ha : a ≤ s.size) : nameP (nx s a).1 = nameS (nx s a).1 ∧ Sound s (nx s a).2.2 :=
  ⟨name_eq _ (next_sound _ a h ha).1, (next_sound _ a h ha).2⟩

end Go.Proofs.YtogcdcdhogcogaaGreatDoor

/- Plain: what the program knows of items, put together, is what the document knows. -/
namespace Go.Proofs.YtogcdcdhogcogaaGreatDoor
open Go Go.RowKit
set_option linter.unusedVariables false
set_option linter.unusedSimpArgs false

/-- What is known of items is no less than nothing. -/
structure Inf.Nn (i : Inf) : Prop where
  n : 0 ≤ i.need
  m : 0 ≤ i.need + i.net
  h : 0 ≤ i.high
  k : i.net ≤ i.high
  s : 0 ≤ i.steps
  t : i.steps ≤ 1000000001

theorem Inf.ext' {a b : Inf} (h1 : a.need = b.need) (h2 : a.net = b.net) (h3 : a.high = b.high) (h4 : a.steps = b.steps) (h5 : a.str = b.str) : a = b := by
  cases a; cases b; simp_all

theorem Inf.Nn.zero : Inf.zero.Nn := by constructor <;> simp [Inf.zero]
theorem Inf.Nn.then {a b : Inf} (ha : a.Nn) (hb : b.Nn) : (a.then b).Nn := by
  obtain ⟨a1, a2, a3, a4, a5, a6⟩ := ha
  obtain ⟨b1, b2, b3, b4, b5, b6⟩ := hb
  constructor <;> simp only [Inf.then] <;> omega
theorem Inf.Nn.more {a : Inf} (ha : a.Nn) : a.more.Nn := by
  obtain ⟨a1, a2, a3, a4, a5, a6⟩ := ha
  constructor <;> simp only [Inf.more] <;> omega
theorem Inf.Nn.ways {a b : Inf} (ha : a.Nn) (hb : b.Nn) (hn : a.net = b.net) : (a.ways b).Nn := by
  obtain ⟨a1, a2, a3, a4, a5, a6⟩ := ha
  obtain ⟨b1, b2, b3, b4, b5, b6⟩ := hb
  constructor <;> simp only [Inf.ways] <;> omega
theorem Inf.Nn.times {a : Inf} (ha : a.Nn) {n : Int} (hn : 0 ≤ n) : (a.times n).Nn := by
  obtain ⟨a1, a2, a3, a4, a5, a6⟩ := ha
  have hp : 0 ≤ n * min (a.steps + 1) 1000000001 := Int.mul_nonneg hn (by omega)
  unfold Inf.times
  split <;> constructor <;> simp only <;> omega
theorem Inf.Nn.plain {t p : Int} (ht : 0 ≤ t) (hp : 0 ≤ p) : (Inf.plain t p).Nn := by
  constructor <;> simp only [Inf.plain] <;> omega

theorem then_assoc {a b c : Inf} (ha : a.Nn) (hb : b.Nn) (hc : c.Nn) : (a.then b).then c = a.then (b.then c) := by
  obtain ⟨a1, a2, a3, a4, a5, a6⟩ := ha
  obtain ⟨b1, b2, b3, b4, b5, b6⟩ := hb
  obtain ⟨c1, c2, c3, c4, c5, c6⟩ := hc
  refine Inf.ext' ?_ ?_ ?_ ?_ ?_ <;> simp only [Inf.then]
  · omega
  · omega
  · omega
  · omega
  · exact Bool.and_assoc _ _ _

theorem op_none : opInf 30 = ⟨0, 0, 0, 1, true⟩ ∧ opInf 32 = ⟨0, 0, 0, 1, true⟩ ∧ opInf 33 = ⟨0, 0, 0, 1, true⟩ ∧ opInf 34 = ⟨0, 0, 0, 1, true⟩ := ⟨rfl, rfl, rfl, rfl⟩
theorem op_some : opInf 28 = Inf.plain 0 1 ∧ opInf 29 = ⟨1, -1, 0, 1, false⟩ ∧ opInf 31 = Inf.plain 2 0 := ⟨rfl, rfl, rfl⟩

theorem then_one {i : Inf} (h : i.Nn) : i.then ⟨0, 0, 0, 1, true⟩ = i.more := by
  obtain ⟨a1, a2, a3, a4, a5, a6⟩ := h
  refine Inf.ext' ?_ ?_ ?_ ?_ ?_ <;> simp only [Inf.then, Inf.more]
  · omega
  · omega
  · omega
  · simp
theorem one_then {i : Inf} (h : i.Nn) : Inf.then ⟨0, 0, 0, 1, true⟩ i = i.more := by
  obtain ⟨a1, a2, a3, a4, a5, a6⟩ := h
  refine Inf.ext' ?_ ?_ ?_ ?_ ?_ <;> simp only [Inf.then, Inf.more]
  · omega
  · omega
  · omega
  · omega
  · simp
theorem zero_then {i : Inf} (h : i.Nn) : Inf.zero.then i = i := by
  obtain ⟨a1, a2, a3, a4, a5, a6⟩ := h
  refine Inf.ext' ?_ ?_ ?_ ?_ ?_ <;> simp only [Inf.then, Inf.zero]
  · omega
  · omega
  · omega
  · omega
  · simp
theorem op29 : (opInf 29).Nn := by rw [op_some.2.1]; constructor <;> simp
theorem op31 : (opInf 31).Nn := by rw [op_some.2.2]; exact Inf.Nn.plain (by omega) (by omega)

/-- An if, as both put it together. -/
theorem if_eq {d x y : Inf} (hd : d.Nn) (hx : x.Nn) (hy : y.Nn) (hn : x.net = y.net) : (d.then (opInf 29)).then (x.orP y) = d.then ((Inf.plain 1 0).then (y.ways x)) := by
  obtain ⟨a1, a2, a3, a4, a5, a6⟩ := hd
  obtain ⟨b1, b2, b3, b4, b5, b6⟩ := hx
  obtain ⟨c1, c2, c3, c4, c5, c6⟩ := hy
  rw [op_some.2.1]
  refine Inf.ext' ?_ ?_ ?_ ?_ ?_ <;> simp only [Inf.then, Inf.orP, Inf.ways, Inf.plain]
  · omega
  · omega
  · omega
  · omega
  · simp
/-- A do, as both put it together. -/
theorem do_eq {d x : Inf} {n : Int} (hd : d.Nn) (hx : x.Nn) (hn : 0 ≤ n) : (d.then (opInf 31)).then ((x.then (opInf 32)).timesP n) = d.then ((Inf.plain 2 0).then (x.times n)) := by
  have e : (x.then (opInf 32)).timesP n = x.times n := by
    rw [op_none.2.1, then_one hx]
    unfold Inf.timesP Inf.times
    split
    · rfl
    · refine Inf.ext' ?_ ?_ ?_ ?_ ?_ <;> simp only [Inf.more]
      rw [Int.mul_comm]
  rw [e, op_some.2.2, ← then_assoc hd (Inf.Nn.plain (by omega) (by omega)) (hx.times hn)]

theorem infAt_snoc (l : List AI) (x : AI) (j : Nat) (h : j < l.length) : infAt (l ++ [x]) j = infAt l j := by
  unfold infAt
  simp [List.getD, List.getElem?_append_left, h]
theorem upTo_congr {f g : Nat → Inf} : ∀ n, (∀ j, j < n → f j = g j) → upTo f n = upTo g n
  | 0, _ => rfl
  | n + 1, h => by rw [upTo, upTo, upTo_congr n (fun j hj => h j (by omega)), h n (by omega)]
theorem infL_snoc (l : List AI) (x : AI) : infL (l ++ [x]) = (infL l).then x.inf := by
  unfold infL
  rw [show (l ++ [x]).length = l.length + 1 by simp, upTo, upTo_congr l.length (fun j hj => infAt_snoc l x j hj)]
  congr 1
  simp [infAt]
theorem infL_nil : infL [] = Inf.zero := rfl

/-- What stands last among items, as the program keeps it in mind. -/
def NumR (b : PB) (l : List AI) : Prop :=
  match l.reverse with
  | ⟨some y, _⟩ :: ⟨some x, _⟩ :: _ => b.numbers = 2 ∧ b.a0 = x ∧ b.a1 = y
  | ⟨some y, _⟩ :: _ => b.numbers = 1 ∧ b.a1 = y
  | _ => b.numbers = 0
theorem NumR.none {b : PB} {l : List AI} {i : Inf} (h : b.numbers = 0) : NumR b (l ++ [⟨none, i⟩]) := by
  unfold NumR; simp [h]
theorem NumR.some {b b' : PB} {l : List AI} {i : Inf} {n : Int} (h : NumR b l) (h1 : b'.numbers = min (b.numbers + 1) 2) (h2 : b'.a0 = b.a1) (h3 : b'.a1 = n) : NumR b' (l ++ [⟨some n, i⟩]) := by
  unfold NumR at h ⊢
  rw [List.reverse_append]
  generalize l.reverse = q at h
  match q, h with
  | [], h => simp at h ⊢; omega
  | ⟨Option.none, _⟩ :: _, h => simp at h ⊢; omega
  | [⟨Option.some y, _⟩], h => simp at h ⊢; omega
  | ⟨Option.some y, _⟩ :: ⟨Option.none, _⟩ :: _, h => simp at h ⊢; omega
  | ⟨Option.some y, _⟩ :: ⟨Option.some x, _⟩ :: _, h => simp at h ⊢; omega
theorem NumR.two {b : PB} {l : List AI} (h : NumR b l) : (b.numbers < 2 ∧ lastTwo l = Option.none) ∨ (b.numbers = 2 ∧ lastTwo l = Option.some (b.a0, b.a1)) := by
  unfold NumR at h
  unfold lastTwo
  generalize l.reverse = q at h
  match q, h with
  | [], h => left; simp at h ⊢; omega
  | ⟨Option.none, _⟩ :: _, h => left; simp at h ⊢; omega
  | [⟨Option.some y, _⟩], h => left; simp at h ⊢; omega
  | ⟨Option.some y, _⟩ :: ⟨Option.none, _⟩ :: _, h => left; simp at h ⊢; omega
  | ⟨Option.some y, _⟩ :: ⟨Option.some x, _⟩ :: _, h => right; simp at h ⊢; exact ⟨h.1, h.2.1.symm, h.2.2.symm⟩

/-- The place in the tokens at which a reader stands. -/
structure At (s : ByteArray) (toks : List Tk) (I a : Nat) : Prop where
  le : a ≤ s.size
  tk : toksAt s a = toks.drop I
  sd : Sound s a

theorem next_end (s : ByteArray) : ∀ (f a : Nat), a ≤ s.size → s.size - a ≤ f → toksAt s a = [] → (nextF s f a).2.1 = s.size := by
  have main : ∀ a, a ≤ s.size → toksAt s a = toksAt s (cutB s a) ∧ (cutB s a < s.size → blk (byt s (cutB s a)) = false) := fun a ha => by
    have hB := scan_spec ink s a ha
    refine ⟨toks_skip s (cutB s a - a) a (cutB s a) (by have := hB.1; unfold cutB; omega) hB.2.1 (fun x h1 h2 => ?_), fun h => ?_⟩
    · have := hB.2.2.1 x h1 h2
      unfold ink at this; simpa using this
    · rcases hB.2.2.2 with e | e
      · exact absurd e (by unfold cutB at h; omega)
      · have e' : (!blk (byt s (cutB s a))) = true := e
        simpa using e'
  intro f
  induction f with
  | zero =>
    intro a ha hf h
    obtain ⟨l1, l2, l3⟩ := cut_le s a ha
    unfold nextF; simp only; omega
  | succ f ih =>
    intro a ha hf h
    obtain ⟨l1, l2, l3⟩ := cut_le s a ha
    unfold nextF
    by_cases hb : cutB s a < s.size
    · have hk := (main a ha).2 hb
      have hlt : cutB s a < cutE s a := scan_blk_lt s _ hb hk
      by_cases hn : ((s.extract (cutB s a) (cutE s a)).toList == [92]) = true
      · rw [if_pos hn]
        have hsp := scan_spec eol s (cutE s a) l3
        have e : toksAt s a = toksAt s (scan eol s (cutE s a)) := by
          rw [(main a ha).1, toksAt_note s _ hb hk ((ext_list _ _).1 hn)]; rfl
        exact ih _ hsp.2.1 (by have := hsp.1; omega) (by rw [← e]; exact h)
      · exfalso
        rw [(main a ha).1, toksAt_tok s _ hb hk (fun e => hn ((ext_list _ _).2 e))] at h
        cases h
    · have e : cutB s a = s.size := by omega
      split
      · have hsp := scan_spec eol s (cutE s a) l3
        exact ih _ hsp.2.1 (by have := hsp.1; omega) (toksAt_end s _ (by have := hsp.1; omega))
      · exact e

theorem At.next {s : ByteArray} {toks : List Tk} {I a : Nat} (h : At s toks I a) (hI : I ≤ toks.length) :
    (nx s a).1 = tokS toks I ∧ ((nx s a).2.1 : Int) = plc toks s.size I ∧ ((tokS toks I).toList = [] ∨ (I < toks.length ∧ At s toks (I + 1) (nx s a).2.2)) := by
  have hle := (nextF_le s (s.size - a) a h.le)
  rcases next_tok s (s.size - a) a h.le (Nat.le_refl _) with ⟨h1, h2⟩ | ⟨h1, h2⟩
  · have hd : toks.drop I = [] := by rw [← h.tk]; exact h1
    have hl : toks.length ≤ I := by
      have := congrArg List.length hd
      simp at this; omega
    have ht : tokS toks I = ⟨#[]⟩ := by simp [tokS, List.getD, List.getElem?_eq_none hl]
    refine ⟨by rw [ht]; exact h2, ?_, Or.inl (by rw [ht]; exact ba_list [])⟩
    have := next_end s (s.size - a) a h.le (Nat.le_refl _) h1
    unfold nx; rw [this]
    simp [plc, Nat.not_lt.2 hl]
  · have hd := h.tk
    rw [h1] at hd
    have hl : I < toks.length := by
      rcases Nat.lt_or_ge I toks.length with h3 | h3
      · exact h3
      · rw [List.drop_eq_nil_of_le h3] at hd; cases hd
    rw [List.drop_eq_getElem_cons hl] at hd
    have e1 := (List.cons.inj hd).1
    have e2 := (List.cons.inj hd).2
    refine ⟨?_, ?_, Or.inr ⟨hl, ⟨hle.2.2.1, e2, (next_name h.sd h.le).2⟩⟩⟩
    · simp [tokS, hl, ← e1, nx]
    · simp [plc, hl, ← e1, nx]

theorem At.name {s : ByteArray} {toks : List Tk} {I a : Nat} (h : At s toks I a) (hI : I ≤ toks.length) : nameP (nx s a).1 = nameS (tokS toks I) := by
  rw [← (h.next hI).1]; exact (next_name h.sd h.le).1

end Go.Proofs.YtogcdcdhogcogaaGreatDoor

/- Plain: the program reads the items of a definition as the document does. -/
namespace Go.Proofs.YtogcdcdhogcogaaGreatDoor
open Go Go.RowKit
set_option linter.unusedVariables false
set_option linter.unusedSimpArgs false

/-- The program's words and the document's. -/
structure Alike (es : List PE) (ws : List RW) : Prop where
  names : es.map PE.name = ws.map RW.name
  use : ∀ (k : Nat) (x : PE) (y : RW), es[k]? = some x → ws[k]? = some y → (x.var = true → y.var = x.place ∧ 0 ≤ y.var) ∧ (x.var = false → y.var = -1 ∧ x.inf = y.inf ∧ y.inf.Nn)

theorem Alike.len {es : List PE} {ws : List RW} (h : Alike es ws) : es.length = ws.length := by
  have := congrArg List.length h.names
  simpa using this

/-- Items that are being read. -/
structure BR (b : PB) (l : List AI) (loops : Int) : Prop where
  does : b.does = infL l
  nn : (infL l).Nn
  ido : b.inDo = decide (0 < loops)
  num : NumR b l

structure Same (b b' : PB) : Prop where
  op : b'.opener = b.opener
  ido : b'.inDo = b.inDo
  hole : b'.hole = b.hole
  times : b'.times = b.times
  other : b'.other = b.other
theorem Same.refl (b : PB) : Same b b := ⟨rfl, rfl, rfl, rfl, rfl⟩
theorem Same.trans {a b c : PB} (h : Same a b) (h' : Same b c) : Same a c := ⟨h'.op.trans h.op, h'.ido.trans h.ido, h'.hole.trans h.hole, h'.times.trans h.times, h'.other.trans h.other⟩
theorem Same.add (b : PB) (i : Inf) : Same b (b.add i) := ⟨rfl, rfl, rfl, rfl, rfl⟩

def endsOf (o : Int) : List ByteArray := if o = 29 then [tElse, tThen] else if o = 30 then [tThen] else if o = 31 then [tLoop] else [tSemi]
def Opn (b : PB) : Prop := b.opener = 29 ∨ b.opener = 30 ∨ b.opener = 31 ∨ b.opener = 34
theorem Opn.none {b : PB} (h : Opn b) : inL ⟨#[]⟩ (endsOf b.opener) = false := by
  rcases h with h | h | h | h <;> rw [h]
  · exact ends1
  · exact ends2
  · exact ends3
  · exact ends4

theorem BR.snoc {b : PB} {l : List AI} {loops : Int} (h : BR b l loops) (i : Inf) (hi : i.Nn) : BR (b.add i) (l ++ [⟨none, i⟩]) loops :=
  ⟨by rw [infL_snoc]; simp [PB.add, h.does], by rw [infL_snoc]; exact h.nn.then hi, h.ido, NumR.none rfl⟩

theorem defP_err1 {es : List PE} {nt : Int} {s : ByteArray} {g : Nat} {tk : Int} {dc : List Int} {b : PB} {r : List PB} {kn : Inf} {a : Nat} {E : Int} (h : (stepP es nt (tk + 1) dc (b :: r) kn (nx s a).1).1 = E) (hE : E ≠ 0) : defP es nt s (g + 1) tk dc (b :: r) kn a = .inr (E, ((nx s a).2.1 : Int)) := by
  rw [defP, h, if_neg hE]
theorem defP_ok1 {es : List PE} {nt : Int} {s : ByteArray} {g : Nat} {tk : Int} {dc dc' : List Int} {b : PB} {r st' : List PB} {kn kn' : Inf} {a : Nat} (h : stepP es nt (tk + 1) dc (b :: r) kn (nx s a).1 = (0, dc', st', kn')) : defP es nt s (g + 1) tk dc (b :: r) kn a = defP es nt s g (tk + 1) dc' st' kn' (nx s a).2.2 := by
  rw [defP, h]; simp

theorem stray_iff (t : ByteArray) : inL t stray = true ↔ (t.toList = [] ∨ t.toList = [101, 108, 115, 101] ∨ t.toList = [116, 104, 101, 110] ∨ t.toList = [108, 111, 111, 112] ∨ t.toList = [59] ∨ t.toList = [58] ∨ t.toList = [118, 97, 114, 105, 97, 98, 108, 101]) := by
  unfold inL stray tElse tThen tLoop tSemi tColon tVar
  simp only [List.any_cons, List.any_nil, ba_list, Bool.or_false, Bool.or_eq_true, beq_iff_eq]
  constructor
  · rintro (h | h | h | h | h | h | h) <;> simp [← h]
  · rintro (h | h | h | h | h | h | h) <;> simp [h]
theorem stray_cases {t : ByteArray} (h : inL t stray = true) : t.toList = [] ∨ t.toList = [101, 108, 115, 101] ∨ t.toList = [116, 104, 101, 110] ∨ t.toList = [108, 111, 111, 112] ∨ t.toList = [59] ∨ t.toList = [58] ∨ t.toList = [118, 97, 114, 105, 97, 98, 108, 101] := (stray_iff t).1 h
theorem stray_not {t : ByteArray} (h : inL t stray = false) : t.toList ≠ [] ∧ t.toList ≠ [101, 108, 115, 101] ∧ t.toList ≠ [116, 104, 101, 110] ∧ t.toList ≠ [108, 111, 111, 112] ∧ t.toList ≠ [59] ∧ t.toList ≠ [58] ∧ t.toList ≠ [118, 97, 114, 105, 97, 98, 108, 101] := by
  have h2 : ¬ inL t stray = true := by simp [h]
  rw [stray_iff] at h2
  simp only [not_or] at h2
  exact h2
theorem end_two {t : ByteArray} (h : inL t [tElse, tThen] = true) : t.toList = [101, 108, 115, 101] ∨ t.toList = [116, 104, 101, 110] := by
  unfold inL tElse tThen at h
  simp only [List.any_cons, List.any_nil, ba_list, Bool.or_false, Bool.or_eq_true, beq_iff_eq] at h
  rcases h with h | h <;> simp [← h]
theorem end_then {t : ByteArray} (h : inL t [tThen] = true) : t.toList = [116, 104, 101, 110] := by
  unfold inL tThen at h
  simp only [List.any_cons, List.any_nil, ba_list, Bool.or_false, Bool.or_eq_true, beq_iff_eq] at h
  exact h.symm
theorem end_loop {t : ByteArray} (h : inL t [tLoop] = true) : t.toList = [108, 111, 111, 112] := by
  unfold inL tLoop at h
  simp only [List.any_cons, List.any_nil, ba_list, Bool.or_false, Bool.or_eq_true, beq_iff_eq] at h
  exact h.symm
theorem end_semi {t : ByteArray} (h : inL t [tSemi] = true) : t.toList = [59] := by
  unfold inL tSemi at h
  simp only [List.any_cons, List.any_nil, ba_list, Bool.or_false, Bool.or_eq_true, beq_iff_eq] at h
  exact h.symm

theorem step_stray (es : List PE) (nt tk : Int) (dc : List Int) {b : PB} (r : List PB) (kn : Inf) {t : ByteArray} (hb : Opn b) (h : inL t stray = true) (hn : inL t (endsOf b.opener) = false) : (stepP es nt tk dc (b :: r) kn t).1 = 5 := by
  rcases stray_cases h with e | e | e | e | e | e | e
  · simp [stepP, e]
  · have : b.opener ≠ 29 := by rintro h1; rw [h1] at hn; simp [endsOf, inL, tElse, ba_list, e] at hn
    simp [stepP, e, this]
  · have : ¬ (b.opener = 29 ∨ b.opener = 30) := by
      rintro (h1 | h1) <;> rw [h1] at hn <;> simp [endsOf, inL, tElse, tThen, ba_list, e] at hn
    simp [stepP, e, this]
  · have : b.opener ≠ 31 := by rintro h1; rw [h1] at hn; simp [endsOf, inL, tLoop, ba_list, e] at hn
    simp [stepP, e, this]
  · have : b.opener ≠ 34 := by rintro h1; rw [h1] at hn; simp [endsOf, inL, tSemi, ba_list, e] at hn
    simp [stepP, e, this]
  · simp [stepP, e]
  · simp [stepP, e]

theorem if_num {t : ByteArray} (h : t.toList = [105, 102] ∨ t.toList = [100, 111]) : (numS t).2 = false := by
  rcases h with h | h
  · have : t = ⟨#[105, 102]⟩ := (ext_list t [105, 102]).1 (by simp [h])
    subst this; decide +kernel
  · have : t = ⟨#[100, 111]⟩ := (ext_list t [100, 111]).1 (by simp [h])
    subst this; decide +kernel

theorem step_num (es : List PE) (nt tk : Int) (dc : List Int) (b : PB) (r : List PB) (kn : Inf) {t : ByteArray} (h : inL t stray = false) (hn : (numS t).2 = true) :
    stepP es nt tk dc (b :: r) kn t = (0, dc ++ [28, (numS t).1], { b.add (opInf 28) with numbers := min (b.numbers + 1) 2, a0 := b.a1, a1 := (numS t).1 } :: r, kn) := by
  obtain ⟨h1, h2, h3, h4, h5, h6, h7⟩ := stray_not h
  have n1 : t.toList ≠ [105, 102] := fun e => by rw [if_num (Or.inl e)] at hn; cases hn
  have n2 : t.toList ≠ [100, 111] := fun e => by rw [if_num (Or.inr e)] at hn; cases hn
  obtain ⟨q1, q2⟩ := num_eq t
  rw [hn] at q1
  rw [← q2 q1]
  simp [stepP, h1, h2, h3, h4, h5, h6, h7, n1, n2, q1]

theorem step_word (es : List PE) (nt tk : Int) (dc : List Int) (b : PB) (r : List PB) (kn : Inf) {t : ByteArray} (h : inL t stray = false) (hn : ¬ (numS t).2 = true) (n1 : ¬ (t.toList == [105, 102]) = true) (n2 : ¬ (t.toList == [100, 111]) = true) :
    stepP es nt tk dc (b :: r) kn t = stepW es dc b r kn t := by
  obtain ⟨h1, h2, h3, h4, h5, h6, h7⟩ := stray_not h
  obtain ⟨q1, q2⟩ := num_eq t
  have hn' : (numP t).2 = false := by rw [q1]; simpa using hn
  simp only [beq_iff_eq] at n1 n2
  simp [stepP, h1, h2, h3, h4, h5, h6, h7, n1, n2, hn']

/-- What a word does, as both have it. -/
theorem word_eq {es : List PE} {ws : List RW} (hA : Alike es ws) (dc : List Int) {b : PB} (r : List PB) (kn : Inf) (t : ByteArray) {loops : Int} (hl : 0 ≤ loops) (hb : b.inDo = decide (0 < loops)) :
    (wordE ws t loops = 0 ∧ (wordI ws t).Nn ∧ ∃ dc', stepW es dc b r kn t = (0, dc', b.add (wordI ws t) :: r, kn)) ∨ (wordE ws t loops ≠ 0 ∧ (stepW es dc b r kn t).1 = wordE ws t loops) := by
  unfold stepW wordE wordI
  rw [last_findW hA.names t]
  by_cases hf : 0 ≤ findW ws t
  · left
    have hlt : findW ws t < ws.length := (lastK_lt (nameAt ws) t ws.length).1
    have hk : (findW ws t).toNat < ws.length := by omega
    have hy : ws[(findW ws t).toNat]? = some ws[(findW ws t).toNat] := List.getElem?_eq_getElem hk
    have hk' : (findW ws t).toNat < es.length := by rw [hA.len]; exact hk
    have hx : es[(findW ws t).toNat]? = some es[(findW ws t).toNat] := List.getElem?_eq_getElem hk'
    have hu := hA.use _ _ _ hx hy
    rw [if_pos hf, if_pos hf, if_pos hf, hy]
    have hg : es.getD (findW ws t).toNat PE.zero = es[(findW ws t).toNat] := by simp [hk']
    simp only [hg]
    generalize es[(findW ws t).toNat] = x at hu
    generalize ws[(findW ws t).toNat] = y at hu
    have key : x.use = ownInf y ∧ (ownInf y).Nn := by
      unfold PE.use ownInf
      cases hv : x.var with
      | true =>
        have := (hu.1 hv).2
        rw [if_pos rfl, if_pos this, op_some.1]
        exact ⟨rfl, Inf.Nn.plain (by omega) (by omega)⟩
      | false =>
        obtain ⟨u1, u2, u3⟩ := hu.2 hv
        rw [if_neg (by simp), if_neg (by omega), u2, op_none.2.2.1]
        exact ⟨one_then u3, u3.more⟩
    exact ⟨by trivial, key.2, _, by rw [key.1]⟩
  · rw [if_neg hf, if_neg hf, if_neg hf]
    cases ho : opFind t with
    | none =>
      right
      rw [there_none ho]
      exact ⟨by simp, by simp⟩
    | some k =>
      obtain ⟨e1, e2, e3⟩ := there_some ho
      have e4 := there_inf ho
      have hb2 := thereS_bd t
      simp only
      by_cases h5 : k = 27 ∧ b.inDo = false
      · right
        have hl0 : loops = 0 := by
          have := h5.2; rw [hb] at this; simp at this; omega
        have hi : (t.toList == [105]) = true := by simpa using e3.2 h5.1
        rw [e1]
        simp only [Bool.true_eq_false, if_false]
        rw [if_pos ⟨hi, hl0⟩, if_pos h5]
        exact ⟨by decide, rfl⟩
      · left
        have hno : ¬ ((t.toList == [105]) = true ∧ loops = 0) := by
          rintro ⟨h1, h2⟩
          exact h5 ⟨e3.1 (by simpa using h1), by rw [hb, h2]; rfl⟩
        rw [if_neg h5]
        have h22 : (thereS t).2.2 = true := by rw [e1]
        rw [h22]
        simp only [Bool.true_eq_false, if_false]
        rw [if_neg hno]
        exact ⟨rfl, Inf.Nn.plain hb2.1 hb2.2.2.1, _, by rw [e4]⟩

/-- What reading items comes to, for the program. -/
def Outc (es : List PE) (nt : Int) (s : ByteArray) (toks : List Tk) (ends : List ByteArray) (loops : Int) (I g : Nat) (tk : Int) (dc : List Int) (b : PB) (r : List PB) (kn : Inf) (a : Nat) : PR → Prop
  | .inr E => defP es nt s g tk dc (b :: r) kn a = .inr E
  | .inl (l, t, I') => I < I' ∧ I' ≤ toks.length ∧ inL t ends = true ∧ t = tokS toks (I' - 1) ∧ ∃ g' dc' b' a', defP es nt s g tk dc (b :: r) kn a = defP es nt s g' (tk + ((I' - 1 - I : Nat) : Int)) dc' (b' :: r) kn a' ∧ toks.length - (I' - 1) + 2 ≤ g' ∧ At s toks (I' - 1) a' ∧ Same b b' ∧ BR b' l loops

theorem Outc.step {es : List PE} {nt : Int} {s : ByteArray} {toks : List Tk} {ends : List ByteArray} {loops : Int} {I J g g1 : Nat} {tk tk1 : Int} {dc dc1 : List Int} {b b1 : PB} {r : List PB} {kn : Inf} {a a1 : Nat} {R : PR}
    (h : Outc es nt s toks ends loops J g1 tk1 dc1 b1 r kn a1 R) (h1 : defP es nt s g tk dc (b :: r) kn a = defP es nt s g1 tk1 dc1 (b1 :: r) kn a1) (hIJ : I < J) (htk : tk1 = tk + ((J - I : Nat) : Int)) (hs : Same b b1) :
    Outc es nt s toks ends loops I g tk dc b r kn a R := by
  match R, h with
  | .inr E, h => exact h1.trans h
  | .inl (l, t, I'), h =>
    obtain ⟨c1, c2, c3, c4, g', dc', b', a', c5, c6, c7, c8, c9⟩ := h
    refine ⟨by omega, c2, c3, c4, g', dc', b', a', ?_, c6, c7, hs.trans c8, c9⟩
    rw [h1, c5, htk]
    congr 1
    omega

set_option maxHeartbeats 1000000 in
theorem def_items {es : List PE} {ws : List RW} (hA : Alike es ws) (nt : Int) (s : ByteArray) (toks : List Tk) : ∀ (f : Nat) (ends : List ByteArray) (loops : Int) (acc : List AI) (I g : Nat) (tk : Int) (dc : List Int) (b : PB) (r : List PB) (kn : Inf) (a : Nat),
    toks.length + 1 - I ≤ f → I ≤ toks.length → toks.length - I + 2 ≤ g → At s toks I a → BR b acc loops → 0 ≤ loops → Opn b → ends = endsOf b.opener →
    Outc es nt s toks ends loops I g tk dc b r kn a (pItems ws toks s.size f ends loops acc I) := by
  intro f
  induction f with
  | zero => intro ends loops acc I g tk dc b r kn a h1 h2; omega
  | succ f ih =>
    intro ends loops acc I g tk dc b r kn a hf hI hg hat hbr hl hop hends
    obtain ⟨g, rfl⟩ : ∃ g0, g = g0 + 1 := ⟨g - 1, by omega⟩
    obtain ⟨n1, n2, n3⟩ := hat.next hI
    have bad : ∀ {E : Int} {tk' : Int} {dc' : List Int} {b' : PB} {r' : List PB} {kn' : Inf} {g' : Nat}, (stepP es nt (tk' + 1) dc' (b' :: r') kn' (tokS toks I)).1 = E → E ≠ 0 → defP es nt s (g' + 1) tk' dc' (b' :: r') kn' a = .inr (E, plc toks s.size I) := by
      intro E tk' dc' b' r' kn' g' h hE
      rw [← n1] at h
      rw [defP_err1 h hE, n2]
    have hnone := hop.none
    rw [pItems]
    split
    · rename_i hin
      have hlt : I < toks.length := tok_end toks I ends (by rw [hends]; exact hnone) hin
      exact ⟨by omega, by omega, hin, by simp, g + 1, dc, b, a, by simp, by simpa using hg, by simpa using hat, Same.refl b, hbr⟩
    · rename_i hin
      have hin' : inL (tokS toks I) (endsOf b.opener) = false := by rw [← hends]; simpa using hin
      split
      · rename_i hst
        exact bad (step_stray es nt (tk + 1) dc r kn hop hst hin') (by decide)
      · rename_i hst
        have hst' : inL (tokS toks I) stray = false := by simpa using hst
        have hne := (stray_not hst').1
        obtain ⟨hlt, hat1⟩ := n3.resolve_left hne
        split
        · rename_i hnum
          have hs := step_num es nt (tk + 1) dc b r kn hst' hnum
          rw [← n1] at hs
          refine (ih ends loops _ (I + 1) g (tk + 1) _ { b.add (opInf 28) with numbers := min (b.numbers + 1) 2, a0 := b.a1, a1 := (numS (nx s a).1).1 } r kn _ (by omega) (by omega) (by omega) hat1 ?_ hl hop hends).step (defP_ok1 hs) (by omega) (by omega) ⟨rfl, rfl, rfl, rfl, rfl⟩
          refine ⟨?_, ?_, hbr.ido, ?_⟩
          · rw [infL_snoc]; simp [PB.add, hbr.does, op_some.1]
          · rw [infL_snoc]; exact hbr.nn.then (Inf.Nn.plain (by omega) (by omega))
          · rw [n1]; exact hbr.num.some rfl rfl rfl
        · rename_i hnum
          split
          · rename_i hif
            have hif' : (nx s a).1.toList = [105, 102] := by rw [n1]; simpa using hif
            have hs : stepP es nt (tk + 1) dc (b :: r) kn (nx s a).1 = (0, dc ++ [29, 0], PB.opened { PB.zero with opener := 29 } (b.add (opInf 29)) (dc.length + 2) :: b.add (opInf 29) :: r, kn) := by simp [stepP, hif']
            have hd := defP_ok1 (es := es) (nt := nt) (g := g) hs
            have hB : BR (PB.opened { PB.zero with opener := 29 } (b.add (opInf 29)) (dc.length + 2)) [] loops := ⟨rfl, Inf.Nn.zero, by simp [PB.opened, PB.add, hbr.ido], rfl⟩
            have iA := ih [tElse, tThen] loops [] (I + 1) g (tk + 1) (dc ++ [29, 0]) _ (b.add (opInf 29) :: r) kn _ (by omega) (by omega) (by omega) hat1 hB hl (Or.inl rfl) rfl
            generalize pItems ws toks s.size f [tElse, tThen] loops [] (I + 1) = RA at iA
            match RA, iA with
            | .inr E, iA => exact hd.trans iA
            | .inl (la, ta, I1), iA =>
              obtain ⟨a1, a2, a3, a4, g1, dc1, b1, p1, a5, a6, a7, a8, a9⟩ := iA
              obtain ⟨g1, rfl⟩ : ∃ g0, g1 = g0 + 1 := ⟨g1 - 1, by omega⟩
              obtain ⟨m1, m2, m3⟩ := a7.next (by omega)
              rw [← a4] at m1
              simp only
              have hta : ta.toList = [101, 108, 115, 101] ∨ ta.toList = [116, 104, 101, 110] := by
                exact end_two a3
              have hI1 : I1 - 1 + 1 = I1 := by omega
              have m4 : At s toks I1 (nx s p1).2.2 := by
                rcases m3 with m3 | ⟨_, m3⟩
                · rw [← a4] at m3; rcases hta with h | h <;> rw [h] at m3 <;> cases m3
                · rw [hI1] at m3; exact m3
              have hop1 : b1.opener = 29 := a8.op
              split
              · rename_i hel
                have hel' : (nx s p1).1.toList = [101, 108, 115, 101] := by rw [m1]; simpa using hel
                have hs1 : stepP es nt (tk + 1 + ((I1 - 1 - (I + 1) : Nat) : Int) + 1) dc1 (b1 :: b.add (opInf 29) :: r) kn (nx s p1).1 = (0, (dc1 ++ [30, 0]).set b1.hole.toNat (dc1.length + 2), PB.opened { PB.zero with opener := 30, other := b1.does.then (opInf 30) } (b.add (opInf 29)) (dc1.length + 2) :: b.add (opInf 29) :: r, kn) := by
                  simp [stepP, hel', hop1]
                have hd1 := defP_ok1 (es := es) (nt := nt) (g := g1) hs1
                have hB2 : BR (PB.opened { PB.zero with opener := 30, other := b1.does.then (opInf 30) } (b.add (opInf 29)) (dc1.length + 2)) [] loops := ⟨rfl, Inf.Nn.zero, by simp [PB.opened, PB.add, hbr.ido], rfl⟩
                have iB := ih [tThen] loops [] I1 g1 (tk + 1 + ((I1 - 1 - (I + 1) : Nat) : Int) + 1) ((dc1 ++ [30, 0]).set b1.hole.toNat (dc1.length + 2)) _ (b.add (opInf 29) :: r) kn _ (by omega) a2 (by omega) m4 hB2 hl (Or.inr (Or.inl rfl)) rfl
                generalize pItems ws toks s.size f [tThen] loops [] I1 = RB at iB
                match RB, iB with
                | .inr E, iB => exact hd.trans (a5.trans (hd1.trans iB))
                | .inl (lb, tb, I2), iB =>
                  obtain ⟨b1', b2', b3, b4, g2, dc2, b2, p2, b5, b6, b7, b8, b9⟩ := iB
                  obtain ⟨g2, rfl⟩ : ∃ g0, g2 = g0 + 1 := ⟨g2 - 1, by omega⟩
                  obtain ⟨q1, q2, q3⟩ := b7.next (by omega)
                  rw [← b4] at q1
                  simp only
                  have htb : tb.toList = [116, 104, 101, 110] := by
                    exact end_then b3
                  have hI2 : I2 - 1 + 1 = I2 := by omega
                  have q4 : At s toks I2 (nx s p2).2.2 := by
                    rcases q3 with q3 | ⟨_, q3⟩
                    · rw [← b4, htb] at q3; cases q3
                    · rw [hI2] at q3; exact q3
                  have hop2 : b2.opener = 30 := b8.op
                  have hoth : b2.other = (infL la).more := by rw [b8.other, a9.does.symm]; show b1.does.then (opInf 30) = _; rw [op_none.1, then_one (by rw [a9.does]; exact a9.nn)]
                  have hdoes : b2.does = infL lb := b9.does
                  have htb' : (nx s p2).1.toList = [116, 104, 101, 110] := by rw [q1]; exact htb
                  split
                  · rename_i hnet
                    have hnn : b2.does.net = b2.other.net := by rw [hoth, hdoes]; exact hnet.symm
                    have hs2 : stepP es nt (tk + 1 + ((I1 - 1 - (I + 1) : Nat) : Int) + 1 + ((I2 - 1 - I1 : Nat) : Int) + 1) dc2 (b2 :: b.add (opInf 29) :: r) kn (nx s p2).1 = (0, dc2.set b2.hole.toNat dc2.length, (b.add (opInf 29)).add (b2.does.orP b2.other) :: r, kn) := by
                      simp [stepP, htb', hop2, hnn]
                    have hd2 := defP_ok1 (es := es) (nt := nt) (g := g2) hs2
                    refine (ih ends loops _ I2 g2 (tk + 1 + ((I1 - 1 - (I + 1) : Nat) : Int) + 1 + ((I2 - 1 - I1 : Nat) : Int) + 1) _ ((b.add (opInf 29)).add (b2.does.orP b2.other)) r kn _ (by omega) b2' (by omega) q4 ?_ hl hop hends).step (hd.trans (a5.trans (hd1.trans (b5.trans hd2)))) (by omega) (by omega) ⟨rfl, rfl, rfl, rfl, rfl⟩
                    have hw : ((infL la).more.ways (infL lb)).Nn := a9.nn.more.ways b9.nn hnet
                    refine ⟨?_, ?_, hbr.ido, NumR.none rfl⟩
                    · rw [infL_snoc]
                      show (b.does.then (opInf 29)).then (b2.does.orP b2.other) = _
                      rw [hbr.does, hoth, hdoes]
                      exact if_eq hbr.nn b9.nn a9.nn.more hnet.symm
                    · rw [infL_snoc]; exact hbr.nn.then ((Inf.Nn.plain (by omega) (by omega)).then hw)
                  · rename_i hnet
                    have hnn : ¬ b2.does.net = b2.other.net := by rw [hoth, hdoes]; exact fun e => hnet e.symm
                    refine hd.trans (a5.trans (hd1.trans (b5.trans ?_)))
                    rw [defP_err1 (E := 6) (by simp [stepP, htb', hop2, hnn]) (by decide), q2]
              · rename_i hel
                have hth : ta.toList = [116, 104, 101, 110] := hta.resolve_left (by simpa using hel)
                have hth' : (nx s p1).1.toList = [116, 104, 101, 110] := by rw [m1]; exact hth
                have hoth : b1.other = Inf.zero := a8.other
                have hdoes : b1.does = infL la := a9.does
                split
                · rename_i hnet
                  have hnn : b1.does.net = b1.other.net := by rw [hoth, hdoes]; exact hnet
                  have hs1 : stepP es nt (tk + 1 + ((I1 - 1 - (I + 1) : Nat) : Int) + 1) dc1 (b1 :: b.add (opInf 29) :: r) kn (nx s p1).1 = (0, dc1.set b1.hole.toNat dc1.length, (b.add (opInf 29)).add (b1.does.orP b1.other) :: r, kn) := by
                    simp [stepP, hth', hop1, hnn]
                  have hd1 := defP_ok1 (es := es) (nt := nt) (g := g1) hs1
                  refine (ih ends loops _ I1 g1 (tk + 1 + ((I1 - 1 - (I + 1) : Nat) : Int) + 1) _ ((b.add (opInf 29)).add (b1.does.orP b1.other)) r kn _ (by omega) a2 (by omega) m4 ?_ hl hop hends).step (hd.trans (a5.trans hd1)) (by omega) (by omega) ⟨rfl, rfl, rfl, rfl, rfl⟩
                  have hw : ((infL la).ways Inf.zero).Nn := a9.nn.ways Inf.Nn.zero hnet
                  have hsym : (infL la).ways Inf.zero = Inf.zero.ways (infL la) := by
                    refine Inf.ext' ?_ ?_ ?_ ?_ ?_ <;> simp only [Inf.ways]
                    · omega
                    · exact hnet
                    · omega
                    · omega
                  refine ⟨?_, ?_, hbr.ido, NumR.none rfl⟩
                  · rw [infL_snoc]
                    show (b.does.then (opInf 29)).then (b1.does.orP b1.other) = _
                    rw [hbr.does, hoth, hdoes, hsym]
                    exact if_eq hbr.nn a9.nn Inf.Nn.zero hnet
                  · rw [infL_snoc]; exact hbr.nn.then ((Inf.Nn.plain (by omega) (by omega)).then hw)
                · rename_i hnet
                  have hnn : ¬ b1.does.net = b1.other.net := by rw [hoth, hdoes]; exact hnet
                  refine hd.trans (a5.trans ?_)
                  rw [defP_err1 (E := 6) (by simp [stepP, hth', hop1, hnn]) (by decide), m2]
          · rename_i hif
            split
            · rename_i hdo
              have hdo' : (nx s a).1.toList = [100, 111] := by rw [n1]; simpa using hdo
              rcases hbr.num.two with ⟨t1, t2⟩ | ⟨t1, t2⟩
              · rw [t2]
                simp only
                exact bad (by rw [n1] at hdo'; simp [stepP, hdo', t1]) (by decide)
              · rw [t2]
                simp only
                have hnl : ¬ b.numbers < 2 := by omega
                split
                · rename_i hbig
                  have h1 : 1000 < max 0 (b.a0 - b.a1) := by omega
                  exact bad (E := 7) (by
                    rw [n1] at hdo'
                    simp only [stepP]
                    rw [if_neg (by simp [hdo']), if_neg (by simp [hdo']), if_neg (by simp [hdo']), if_neg (by simp [hdo']), if_neg (by simp [hdo']), if_neg (by simp [hdo']), if_neg (by simp [hdo']), if_pos (by simp [hdo']), if_neg hnl, if_pos h1]) (by decide)
                · rename_i hbig
                  have h1 : ¬ 1000 < max 0 (b.a0 - b.a1) := by omega
                  have hs : stepP es nt (tk + 1) dc (b :: r) kn (nx s a).1 = (0, dc ++ [31, 0], PB.opened { PB.zero with opener := 31, times := max 0 (b.a0 - b.a1) } (b.add (opInf 31)) (dc.length + 2) :: b.add (opInf 31) :: r, kn) := by
                    simp only [stepP]
                    rw [if_neg (by simp [hdo']), if_neg (by simp [hdo']), if_neg (by simp [hdo']), if_neg (by simp [hdo']), if_neg (by simp [hdo']), if_neg (by simp [hdo']), if_neg (by simp [hdo']), if_pos (by simp [hdo']), if_neg hnl, if_neg h1]
                  have hd := defP_ok1 (es := es) (nt := nt) (g := g) hs
                  have hB : BR (PB.opened { PB.zero with opener := 31, times := max 0 (b.a0 - b.a1) } (b.add (opInf 31)) (dc.length + 2)) [] (loops + 1) := ⟨rfl, Inf.Nn.zero, by simp [PB.opened]; omega, rfl⟩
                  have iA := ih [tLoop] (loops + 1) [] (I + 1) g (tk + 1) (dc ++ [31, 0]) _ (b.add (opInf 31) :: r) kn _ (by omega) (by omega) (by omega) hat1 hB (by omega) (Or.inr (Or.inr (Or.inl rfl))) rfl
                  generalize pItems ws toks s.size f [tLoop] (loops + 1) [] (I + 1) = RA at iA
                  match RA, iA with
                  | .inr E, iA => exact hd.trans iA
                  | .inl (la, ta, I1), iA =>
                    obtain ⟨a1, a2, a3, a4, g1, dc1, b1, p1, a5, a6, a7, a8, a9⟩ := iA
                    obtain ⟨g1, rfl⟩ : ∃ g0, g1 = g0 + 1 := ⟨g1 - 1, by omega⟩
                    obtain ⟨m1, m2, m3⟩ := a7.next (by omega)
                    rw [← a4] at m1
                    simp only
                    have hta : ta.toList = [108, 111, 111, 112] := by
                      exact end_loop a3
                    have hta' : (nx s p1).1.toList = [108, 111, 111, 112] := by rw [m1]; exact hta
                    have hI1 : I1 - 1 + 1 = I1 := by omega
                    have m4 : At s toks I1 (nx s p1).2.2 := by
                      rcases m3 with m3 | ⟨_, m3⟩
                      · rw [← a4, hta] at m3; cases m3
                      · rw [hI1] at m3; exact m3
                    have hop1 : b1.opener = 31 := a8.op
                    have htm : b1.times = max 0 (b.a0 - b.a1) := a8.times
                    have hdoes : b1.does = infL la := a9.does
                    split
                    · rename_i hnet
                      have hnn : b1.does.net = 0 := by rw [hdoes]; exact hnet
                      have hs1 : stepP es nt (tk + 1 + ((I1 - 1 - (I + 1) : Nat) : Int) + 1) dc1 (b1 :: b.add (opInf 31) :: r) kn (nx s p1).1 = (0, (dc1 ++ [32, (b1.hole.toNat : Int) + 1]).set b1.hole.toNat (dc1.length + 2), (b.add (opInf 31)).add ((b1.does.then (opInf 32)).timesP b1.times) :: r, kn) := by
                        simp [stepP, hta', hop1, hnn]
                      have hd1 := defP_ok1 (es := es) (nt := nt) (g := g1) hs1
                      refine (ih ends loops _ I1 g1 (tk + 1 + ((I1 - 1 - (I + 1) : Nat) : Int) + 1) _ ((b.add (opInf 31)).add ((b1.does.then (opInf 32)).timesP b1.times)) r kn _ (by omega) a2 (by omega) m4 ?_ hl hop hends).step (hd.trans (a5.trans hd1)) (by omega) (by omega) ⟨rfl, rfl, rfl, rfl, rfl⟩
                      refine ⟨?_, ?_, hbr.ido, NumR.none rfl⟩
                      · rw [infL_snoc]
                        show (b.does.then (opInf 31)).then ((b1.does.then (opInf 32)).timesP b1.times) = _
                        rw [hbr.does, hdoes, htm]
                        exact do_eq hbr.nn a9.nn (by omega)
                      · rw [infL_snoc]; exact hbr.nn.then ((Inf.Nn.plain (by omega) (by omega)).then (a9.nn.times (by omega)))
                    · rename_i hnet
                      have hnn : ¬ b1.does.net = 0 := by rw [hdoes]; exact hnet
                      refine hd.trans (a5.trans ?_)
                      rw [defP_err1 (E := 6) (by simp [stepP, hta', hop1, hnn]) (by decide), m2]
            · rename_i hdo
              have hw := step_word es nt (tk + 1) dc b r kn hst' hnum hif hdo
              rcases word_eq hA dc r kn (tokS toks I) hl hbr.ido with ⟨w1, w2, dc', w3⟩ | ⟨w1, w2⟩
              · rw [if_pos w1]
                have hw2 : stepP es nt (tk + 1) dc (b :: r) kn (nx s a).1 = (0, dc', b.add (wordI ws (tokS toks I)) :: r, kn) := by rw [n1]; exact hw.trans w3
                exact (ih ends loops _ (I + 1) g (tk + 1) _ (b.add (wordI ws (tokS toks I))) r kn _ (by omega) (by omega) (by omega) hat1 (hbr.snoc _ w2) hl hop hends).step (defP_ok1 hw2) (by omega) (by omega) (Same.add b _)
              · rw [if_neg w1]
                exact bad (by rw [hw]; exact w2) w1

end Go.Proofs.YtogcdcdhogcogaaGreatDoor

/- Plain: the program's definitions, and the document's. -/
namespace Go.Proofs.YtogcdcdhogcogaaGreatDoor
open Go Go.RowKit
set_option linter.unusedVariables false
set_option linter.unusedSimpArgs false

/-- What a word's definition gives for the document, behind its first token: its name, items, and how far; or an error and its place. -/
def pColon (ws : List RW) (k : Int) (toks : List Tk) (fin : Int) (f I : Nat) : (ByteArray × List AI × Nat) ⊕ (Int × Int) :=
  if nameS (tokS toks I) = false then .inr (4, plc toks fin I)
  else if 40 ≤ ws.length then .inr (8, plc toks fin I)
  else match pItems ws toks fin f [tSemi] 0 [] (I + 1) with
    | .inr E => .inr E
    | .inl (l, _, I') =>
      if 1000000000 < (infL l).steps + 1 then .inr (7, plc toks fin (I' - 1))
      else if 400 < k + I' - ((I : Int) - 1) then .inr (8, plc toks fin (I' - 1))
      else .inl (tokS toks I, l, I')

/-- What is known of the word. -/
def wInf (l : List AI) : Inf := { infL l with steps := (infL l).steps + 1 }

theorem ref_eq {es : List PE} {ws : List RW} (hA : Alike es ws) (hl : es.length ≤ 40) {s : ByteArray} {toks : List Tk} {I a : Nat} (hat : At s toks I a) (hI : I ≤ toks.length) :
    refP es (nx s a).1 = if nameS (tokS toks I) = false then 4 else if 40 ≤ ws.length then 8 else 0 := by
  unfold refP
  rw [hat.name hI]
  have := hA.len
  cases nameS (tokS toks I) with
  | false => simp
  | true =>
    simp only [if_true, Bool.true_eq_false, if_false]
    by_cases h : 40 ≤ ws.length
    · rw [if_pos h, if_pos (by omega)]
    · rw [if_neg h, if_neg (by omega)]

theorem Alike.nil : Alike [] [] := ⟨rfl, fun k x y h => by simp at h⟩
theorem Alike.push {es : List PE} {ws : List RW} (h : Alike es ws) {x : PE} {y : RW} (hn : x.name = y.name) (hu : (x.var = true → y.var = x.place ∧ 0 ≤ y.var) ∧ (x.var = false → y.var = -1 ∧ x.inf = y.inf ∧ y.inf.Nn)) : Alike (es ++ [x]) (ws ++ [y]) := by
  refine ⟨by simp [h.names, hn], fun k a b h1 h2 => ?_⟩
  have hl := h.len
  by_cases hk : k < es.length
  · rw [List.getElem?_append_left hk] at h1
    rw [List.getElem?_append_left (by omega)] at h2
    exact h.use k a b h1 h2
  · rw [List.getElem?_append_right (by omega)] at h1
    rw [List.getElem?_append_right (by omega)] at h2
    rw [← hl] at h2
    by_cases e : k - es.length = 0
    · rw [e] at h1 h2; simp at h1 h2; subst h1; subst h2; exact hu
    · rw [List.getElem?_eq_none (by simp; omega)] at h1; cases h1

theorem name_some {t : ByteArray} (h : nameS t = true) : t.toList ≠ [] := by
  intro e
  have : t = ⟨#[]⟩ := (ext_list t []).1 (by simp [e])
  subst this
  exact absurd h (by decide +kernel)

theorem pItems_E0 (ws : List RW) (toks : List Tk) (fin : Int) : ∀ (f : Nat) (ends : List ByteArray) (loops : Int) (acc : List AI) (I : Nat) (E : Int × Int), pItems ws toks fin f ends loops acc I = .inr E → E.1 ≠ 0 := by
  intro f
  induction f with
  | zero => intro ends loops acc I E h; simp [pItems] at h; subst h; decide
  | succ f ih =>
    intro ends loops acc I E h
    rw [pItems] at h
    split at h
    · cases h
    split at h
    · cases h; simp
    split at h
    · exact ih _ _ _ _ _ h
    split at h
    · split at h
      · rename_i r hr; cases h; exact ih _ _ _ _ _ hr
      · split at h
        · split at h
          · rename_i r hr; cases h; exact ih _ _ _ _ _ hr
          · split at h
            · exact ih _ _ _ _ _ h
            · cases h; simp
        · split at h
          · exact ih _ _ _ _ _ h
          · cases h; simp
    split at h
    · split at h
      · cases h; simp
      · split at h
        · cases h; simp
        · split at h
          · rename_i r hr; cases h; exact ih _ _ _ _ _ hr
          · split at h
            · exact ih _ _ _ _ _ h
            · cases h; simp
    split at h
    · exact ih _ _ _ _ _ h
    · rename_i hw; cases h; exact hw

theorem toks_len (s : ByteArray) : ∀ (f i : Nat), (toksF s f i).length ≤ f
  | 0, i => by simp [toksF]
  | f + 1, i => by
    unfold toksF
    split
    · split
      · have := toks_len s f (i + 1); omega
      · split
        · have := toks_len s f (scan eol s (scan blk s i)); omega
        · have := toks_len s f (scan blk s i); simp; omega
    · simp

/-- A word's definition. -/
theorem colon_eq {es : List PE} {ws : List RW} (hA : Alike es ws) {nv nt : Int} {code : List Int} (hL : LInv es nv nt code) {s : ByteArray} {toks : List Tk} (htk : toks.length ≤ s.size) {I a : Nat} (hat : At s toks I a) (hI : I ≤ toks.length) (hI1 : 1 ≤ I) (f : Nat) (hf : toks.length + 1 ≤ f) :
    match pColon ws nt toks s.size f I with
    | .inr E => E.1 ≠ 0 ∧ wordP es nt code s a = (E, es, nt, code, 0)
    | .inl (t, l, I') => I < I' ∧ I' ≤ toks.length ∧ t = tokS toks I ∧ (infL l).Nn ∧ (infL l).steps + 1 ≤ 1000000000 ∧ pItems ws toks s.size f [tSemi] 0 [] (I + 1) = .inl (l, tokS toks (I' - 1), I') ∧ ∃ dc a', wordP es nt code s a = ((0, 0), es ++ [⟨t, false, code.length, wInf l⟩], nt + (I' - ((I : Int) - 1)), dc, a') ∧ At s toks I' a' := by
  unfold pColon wordP
  rw [ref_eq hA hL.l hat hI]
  obtain ⟨n1, n2, n3⟩ := hat.next hI
  cases hnm : nameS (tokS toks I) with
  | false =>
    simp only [if_true]
    exact ⟨by simp, by rw [if_neg (by decide), n2]⟩
  | true =>
    simp only [Bool.true_eq_false, if_false]
    by_cases hfull : 40 ≤ ws.length
    · rw [if_pos hfull, if_pos hfull, if_neg (by decide), n2]
      exact ⟨by simp, rfl⟩
    · rw [if_neg hfull, if_neg hfull, if_pos rfl]
      obtain ⟨hlt, hat1⟩ := n3.resolve_left (name_some hnm)
      have hB : BR PB.first [] 0 := ⟨rfl, Inf.Nn.zero, rfl, rfl⟩
      have H := def_items hA nt s toks f [tSemi] 0 [] (I + 1) (s.size + 2) 2 code PB.first [] Inf.zero (nx s a).2.2 (by omega) (by omega) (by omega) hat1 hB (by omega) (Or.inr (Or.inr (Or.inr rfl))) rfl
      cases hp : pItems ws toks s.size f [tSemi] 0 [] (I + 1) with
      | inr E =>
        rw [hp] at H
        have hE := pItems_E0 _ _ _ _ _ _ _ _ _ hp
        have H' : defP es nt s (s.size + 2) 2 code [PB.first] Inf.zero (nx s a).2.2 = .inr E := H
        simp only [H']
        exact ⟨hE, trivial⟩
      | inl x =>
        obtain ⟨l, t', I'⟩ := x
        rw [hp] at H
        obtain ⟨a1, a2, a3, a4, g1, dc1, b1, p1, a5, a6, a7, a8, a9⟩ := H
        obtain ⟨g1, rfl⟩ : ∃ g0, g1 = g0 + 1 + 1 := ⟨g1 - 2, by omega⟩
        obtain ⟨m1, m2, m3⟩ := a7.next (by omega)
        rw [← a4] at m1
        have hta : t'.toList = [59] := by
          exact end_semi a3
        have hta' : (nx s p1).1.toList = [59] := by rw [m1]; exact hta
        have hop1 : b1.opener = 34 := a8.op
        have hdoes : b1.does = infL l := a9.does
        have hmore : b1.does.then (opInf 34) = (infL l).more := by rw [op_none.2.2.2, hdoes]; exact then_one a9.nn
        have m4 : At s toks I' (nx s p1).2.2 := by
          rcases m3 with m3 | ⟨_, m3⟩
          · rw [← a4, hta] at m3; cases m3
          · rw [show I' - 1 + 1 = I' by omega] at m3; exact m3
        have htk2 : (2 : Int) + ((I' - 1 - (I + 1) : Nat) : Int) + 1 = I' - ((I : Int) - 1) := by omega
        have hs : stepP es nt ((2 : Int) + ((I' - 1 - (I + 1) : Nat) : Int) + 1) dc1 [b1] Inf.zero (nx s p1).1 = (endErr (infL l).more.steps nt (I' - ((I : Int) - 1)), dc1 ++ [34], [], (infL l).more) := by
          rw [← htk2, ← hmore]
          simp [stepP, hta', hop1]
        have hst : (infL l).more.steps = min ((infL l).steps + 1) 1000000001 := rfl
        simp only
        by_cases h7 : 1000000000 < (infL l).steps + 1
        · rw [if_pos h7]
          have he : endErr (infL l).more.steps nt (I' - ((I : Int) - 1)) = 7 := by unfold endErr; rw [if_pos (by omega)]
          rw [a5, defP_err1 (E := 7) (by rw [hs, he]) (by decide), m2]
          exact ⟨by simp, rfl⟩
        · rw [if_neg h7]
          by_cases h8 : 400 < nt + I' - ((I : Int) - 1)
          · rw [if_pos h8]
            have he : endErr (infL l).more.steps nt (I' - ((I : Int) - 1)) = 8 := by unfold endErr; rw [if_neg (by omega), if_pos (by omega)]
            rw [a5, defP_err1 (E := 8) (by rw [hs, he]) (by decide), m2]
            exact ⟨by simp, rfl⟩
          · rw [if_neg h8]
            have he : endErr (infL l).more.steps nt (I' - ((I : Int) - 1)) = 0 := by unfold endErr; rw [if_neg (by omega), if_neg (by omega)]
            rw [he] at hs
            have hw : (infL l).more = wInf l := by
              refine Inf.ext' rfl rfl rfl ?_ rfl
              show min ((infL l).steps + 1) 1000000001 = (infL l).steps + 1
              omega
            rw [a5, defP_ok1 hs, htk2, hw]
            refine ⟨by omega, a2, rfl, a9.nn, by omega, by rw [a4], dc1 ++ [34], (nx s p1).2.2, ?_, m4⟩
            simp [defP, n1]

/-- A variable's definition. -/
theorem var_eq {es : List PE} {ws : List RW} (hA : Alike es ws) {nv nt : Int} {code : List Int} (hL : LInv es nv nt code) {s : ByteArray} {toks : List Tk} {I a : Nat} (hat : At s toks I a) (hI : I ≤ toks.length) :
    varP es nv s a = if nameS (tokS toks I) = false then ((4, plc toks s.size I), es, nv) else if 40 ≤ ws.length then ((8, plc toks s.size I), es, nv) else if 16 ≤ nv then ((8, plc toks s.size I), es, nv) else ((0, 0), es ++ [⟨tokS toks I, true, nv, Inf.zero⟩], nv + 1) := by
  unfold varP
  rw [ref_eq hA hL.l hat hI]
  obtain ⟨n1, n2, n3⟩ := hat.next hI
  have := hL.v1
  cases hnm : nameS (tokS toks I) with
  | false => simp [n2]
  | true =>
    simp only [Bool.true_eq_false, if_false]
    by_cases hfull : 40 ≤ ws.length
    · simp [hfull, n2]
    · rw [if_neg hfull, if_neg hfull, if_pos rfl]
      by_cases h16 : 16 ≤ nv
      · rw [if_pos h16, if_pos (by omega), n2]
      · rw [if_neg h16, if_neg (by omega), n1]

end Go.Proofs.YtogcdcdhogcogaaGreatDoor

/- Plain: Load, one definition behind the other, the program's and the document's. -/
namespace Go.Proofs.YtogcdcdhogcogaaGreatDoor
open Go Go.RowKit
set_option linter.unusedVariables false
set_option linter.unusedSimpArgs false

/-- What is wrong with a variable's definition (0: nothing). -/
def vrE (ws : List RW) (c : Int) (t : ByteArray) : Int := if nmE ws t = 0 then (if 16 ≤ c then 8 else 0) else nmE ws t
theorem nmE_def (ws : List RW) (t : ByteArray) : (if nameS t = false then (4 : Int) else if 40 ≤ ws.length then 8 else 0) = nmE ws t := rfl

/-- Where both are while they load. -/
structure LD (s : ByteArray) (toks : List Tk) (R : (Int × Int) × List PE × Int × Int × List Int) (I a f : Nat) (es : List PE) (nv nt : Int) (code : List Int) (ws : List RW) : Prop where
  at_ : At s toks I a
  le : I ≤ toks.length
  alike : Alike es ws
  inv : LInv es nv nt code
  res : R = loadP s f a es nv nt code
  fuel : s.size - a + 1 ≤ f
  ok : ∀ x ∈ ws, x.inf.Wt 1 ∧ ∃ a n c, x.items = .slice a n c

theorem toks_ne (s : ByteArray) : ∀ (f i : Nat), ∀ x ∈ toksF s f i, x.1.toList ≠ []
  | 0, i => by simp [toksF]
  | f + 1, i => by
    unfold toksF
    split
    · rename_i hi
      split
      · exact toks_ne s f (i + 1)
      · rename_i hb
        split
        · exact toks_ne s f _
        · intro x hx
          rcases List.mem_cons.1 hx with rfl | hx
          · intro e
            have hlt := scan_blk_lt s i hi (by simpa using hb)
            have hle := (scan_spec blk s i (by omega)).2.1
            have h1 : (s.extract i (scan blk s i)).size = scan blk s i - i := by simp [ByteArray.size_extract]; omega
            have h2 : s.extract i (scan blk s i) = ⟨#[]⟩ := (ext_list _ []).1 (by simpa using e)
            rw [h2] at h1
            have : (ByteArray.mk #[]).size = 0 := rfl
            omega
          · exact toks_ne s f _ x hx
    · simp

theorem tok_ne {s : ByteArray} {toks : List Tk} (ht : toks = toksAt s 0) {I : Nat} (h : I < toks.length) : (tokS toks I).toList ≠ [] := by
  have hm : toks[I] ∈ toks := List.getElem_mem h
  have : tokS toks I = toks[I].1 := by simp [tokS, h]
  rw [this]
  exact toks_ne s (s.size - 0) 0 _ (by unfold toksAt at ht; rw [← ht]; exact hm)

theorem toks_size (s : ByteArray) : ∀ (f i : Nat), ∀ x ∈ toksF s f i, x.1.size ≤ s.size
  | 0, i => by simp [toksF]
  | f + 1, i => by
    unfold toksF
    split
    · split
      · exact toks_size s f (i + 1)
      · split
        · exact toks_size s f _
        · intro x hx
          rcases List.mem_cons.1 hx with rfl | hx
          · simp only [ByteArray.size_extract]; omega
          · exact toks_size s f _ x hx
    · simp
theorem toks_sz (s : ByteArray) (f i j : Nat) : (tokS (toksF s f i) j).size ≤ s.size := by
  unfold tokS
  by_cases h : j < (toksF s f i).length
  · have := toks_size s f i _ (List.getElem_mem h)
    simpa [h] using this
  · simp [List.getD, List.getElem?_eq_none (Nat.le_of_not_lt h)]
    exact Nat.zero_le _

section
variable {s : ByteArray} {toks : List Tk} {R : (Int × Int) × List PE × Int × Int × List Int} {I a f : Nat} {es : List PE} {nv nt : Int} {code : List Int} {ws : List RW}

theorem LD.done (h : LD s toks R I a f es nv nt code ws) (hI : ¬ I < toks.length) : R = ((0, 0), es, nv, nt, code) := by
  obtain ⟨n1, n2, n3⟩ := h.at_.next h.le
  have hf := h.fuel
  obtain ⟨f', rfl⟩ : ∃ f', f = f' + 1 := ⟨f - 1, by omega⟩
  have he : (tokS toks I).toList = [] := n3.resolve_right (fun e => hI e.1)
  rw [h.res, loadP, n1]
  simp [he]

/-- What is known of the token that comes. -/
theorem LD.more (h : LD s toks R I a f es nv nt code ws) (ht : toks = toksAt s 0) (hI : I < toks.length) :
    ∃ f', f = f' + 1 ∧ (nx s a).1 = tokS toks I ∧ ((nx s a).2.1 : Int) = plc toks s.size I ∧ ((tokS toks I).toList == []) = false ∧ At s toks (I + 1) (nx s a).2.2 ∧ a < (nx s a).2.2 ∧ (nx s a).2.2 ≤ s.size := by
  obtain ⟨n1, n2, n3⟩ := h.at_.next h.le
  have hf := h.fuel
  have hne := tok_ne ht hI
  have hat := (n3.resolve_left hne).2
  have hne' : ((tokS toks I).toList == []) = false := by simpa using hne
  exact ⟨f - 1, by omega, n1, n2, hne', hat, nextF_move s (s.size - a) a h.at_.le (by rw [show (nextF s (s.size - a) a).1 = (nx s a).1 from rfl, n1]; exact hne'), hat.le⟩

theorem LD.bad (h : LD s toks R I a f es nv nt code ws) (ht : toks = toksAt s 0) (hI : I < toks.length) (h1 : ((tokS toks I).toList == [118, 97, 114, 105, 97, 98, 108, 101]) = false) (h2 : ((tokS toks I).toList == [58]) = false) : R = ((3, plc toks s.size I), es, nv, nt, code) := by
  obtain ⟨f', rfl, n1, n2, n3, n4, n5, n6⟩ := h.more ht hI
  rw [h.res, loadP, n1, n2]
  simp only [n3, h1, h2, Bool.false_eq_true, if_false]

theorem LD.var_err (h : LD s toks R I a f es nv nt code ws) (ht : toks = toksAt s 0) (hI : I < toks.length) (h1 : ((tokS toks I).toList == [118, 97, 114, 105, 97, 98, 108, 101]) = true) (hE : vrE ws nv (tokS toks (I + 1)) ≠ 0) : R = ((vrE ws nv (tokS toks (I + 1)), plc toks s.size (I + 1)), es, nv, nt, code) := by
  obtain ⟨f', rfl, n1, n2, n3, n4, n5, n6⟩ := h.more ht hI
  have hv := var_eq h.alike h.inv n4 (by omega)
  rw [h.res, loadP, n1]
  simp only [n3, h1, Bool.false_eq_true, if_false, if_true]
  unfold vrE at hE ⊢
  rw [← nmE_def] at hE ⊢
  cases hn : nameS (tokS toks (I + 1)) with
  | false =>
    rw [hn] at hv
    simp only [if_true] at hv
    simp [hv]
  | true =>
    rw [hn] at hv hE
    simp only [Bool.true_eq_false, if_false] at hv hE ⊢
    by_cases h40 : 40 ≤ ws.length
    · rw [if_pos h40] at hv
      simp [hv, h40]
    · rw [if_neg h40] at hv hE
      by_cases h16 : 16 ≤ nv
      · rw [if_pos h16] at hv
        simp [hv, h40, h16]
      · simp [h16] at hE

theorem LD.var_ok (h : LD s toks R I a f es nv nt code ws) (ht : toks = toksAt s 0) (hI : I < toks.length) (h1 : ((tokS toks I).toList == [118, 97, 114, 105, 97, 98, 108, 101]) = true) (hE : vrE ws nv (tokS toks (I + 1)) = 0) :
    ∃ a' f' es', LD s toks R (I + 2) a' f' es' (nv + 1) nt code (ws ++ [⟨tokS toks (I + 1), nv, .slice none 0 0, ⟨0, 0, 0, 0, false⟩⟩]) := by
  obtain ⟨f', rfl, n1, n2, n3, n4, n5, n6⟩ := h.more ht hI
  have hv := var_eq h.alike h.inv n4 (by omega)
  have hli := h.inv.var (s := s) (a := (nx s a).2.2)
  obtain ⟨m1, m2, m3⟩ := n4.next (by omega)
  have hres := h.res
  rw [loadP, n1] at hres
  simp only [n3, h1, Bool.false_eq_true, if_false, if_true] at hres
  unfold vrE at hE
  rw [← nmE_def] at hE
  cases hn : nameS (tokS toks (I + 1)) with
  | false => rw [hn] at hE; simp at hE
  | true =>
    rw [hn] at hv hE
    simp only [Bool.true_eq_false, if_false] at hv hE
    by_cases h40 : 40 ≤ ws.length
    · simp [h40] at hE
    · rw [if_neg h40] at hv hE
      by_cases h16 : 16 ≤ nv
      · simp [h16] at hE
      · rw [if_neg h16] at hv
        rw [hv] at hres hli
        simp only [if_true] at hres hli
        obtain ⟨hlt, hat⟩ := m3.resolve_left (name_some hn)
        have hv0 := h.inv.v0
        obtain ⟨q1, q2, q3, q4⟩ := nextF_le s (s.size - (nx s a).2.2) (nx s a).2.2 n6
        refine ⟨_, f', _, hat, by omega, h.alike.push rfl ⟨fun _ => ⟨rfl, hv0⟩, fun e => by cases e⟩, hli, hres, ?_, ?_⟩
        · have := h.fuel; unfold nx at *; omega
        · intro x hx
          rcases List.mem_append.1 hx with hx | hx
          · exact h.ok x hx
          · rw [List.mem_singleton.1 hx]
            exact ⟨by constructor <;> simp, _, _, _, rfl⟩

theorem LD.word_err (h : LD s toks R I a f es nv nt code ws) (ht : toks = toksAt s 0) (hI : I < toks.length) (h1 : ((tokS toks I).toList == [118, 97, 114, 105, 97, 98, 108, 101]) = false) (h2 : ((tokS toks I).toList == [58]) = true) (F : Nat) (hF : toks.length + 1 ≤ F) {E : Int × Int} (hE : pColon ws nt toks s.size F (I + 1) = .inr E) : R = (E, es, nv, nt, code) := by
  obtain ⟨f', rfl, n1, n2, n3, n4, n5, n6⟩ := h.more ht hI
  have hl : toks.length ≤ s.size := by rw [ht]; unfold toksAt; have := toks_len s (s.size - 0) 0; omega
  have hw := colon_eq h.alike h.inv hl n4 (by omega) (by omega) F hF
  rw [hE] at hw
  rw [h.res, loadP, n1]
  simp only [n3, h1, h2, Bool.false_eq_true, if_false, if_true]
  rw [hw.2]
  simp only
  rw [if_neg hw.1]

theorem LD.word_ok (h : LD s toks R I a f es nv nt code ws) (ht : toks = toksAt s 0) (hI : I < toks.length) (h1 : ((tokS toks I).toList == [118, 97, 114, 105, 97, 98, 108, 101]) = false) (h2 : ((tokS toks I).toList == [58]) = true) (F : Nat) (hF : toks.length + 1 ≤ F) {t : ByteArray} {l : List AI} {I' : Nat} (hE : pColon ws nt toks s.size F (I + 1) = .inl (t, l, I')) {v : Value} (hv : ∃ a n c, v = .slice a n c) :
    I + 1 < I' ∧ ∃ a' f' es' code', LD s toks R I' a' f' es' nv (nt + I' - (((I + 1 : Nat) : Int) - 1)) code' (ws ++ [⟨t, -1, v, wInf l⟩]) := by
  obtain ⟨f', rfl, n1, n2, n3, n4, n5, n6⟩ := h.more ht hI
  have hl : toks.length ≤ s.size := by rw [ht]; unfold toksAt; have := toks_len s (s.size - 0) 0; omega
  have hw := colon_eq h.alike h.inv hl n4 (by omega) (by omega) F hF
  have hli := h.inv.word (s := s) (a := (nx s a).2.2) n6
  rw [hE] at hw
  obtain ⟨w1, w2, w3, w4, w5, w6, dc, a', w7, w8⟩ := hw
  have hres := h.res
  rw [loadP, n1] at hres
  simp only [n3, h1, h2, Bool.false_eq_true, if_false, if_true] at hres
  rw [w7] at hres hli
  simp only [if_true] at hres hli
  have e1 : nt + (((I' : Nat) : Int) - (((I + 1 : Nat) : Int) - 1)) = nt + I' - (((I + 1 : Nat) : Int) - 1) := by omega
  rw [e1] at hres hli
  have hnn : (wInf l).Nn := by
    obtain ⟨a1, a2, a3, a4, a5, a6⟩ := w4
    constructor <;> simp only [wInf] <;> omega
  refine ⟨w1, a', f', _, dc, w8, w2, h.alike.push rfl ⟨(fun e => by cases e), fun _ => ⟨rfl, rfl, hnn⟩⟩, hli.1, hres, ?_, ?_⟩
  · have := h.fuel; have := hli.2 trivial; omega
  · intro x hx
    rcases List.mem_append.1 hx with hx | hx
    · exact h.ok x hx
    · rw [List.mem_singleton.1 hx]
      exact ⟨hli.1.w ⟨t, false, code.length, wInf l⟩ (by simp), hv⟩
end

end Go.Proofs.YtogcdcdhogcogaaGreatDoor
