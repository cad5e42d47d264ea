import Derived.Test.YtcphhbofjkenaaaGreatDoorM32
namespace Go.Proofs.YtcphhbofjkenaaaGreatDoor
open Go Go.RowKit
set_option linter.unusedVariables false
set_option linter.unusedSimpArgs false
section
variable {s : ByteArray}
end
def joinT (ts : List (List UInt8)) : List UInt8 := (ts.map (· ++ [32])).flatten
theorem joinT_append (a b : List (List UInt8)) : joinT (a ++ b) = joinT a ++ joinT b := by simp [joinT]
theorem joinT_cons (t : List UInt8) (b : List (List UInt8)) : joinT (t :: b) = t ++ 32 :: joinT b := by simp [joinT]
def tokB (t : List UInt8) : Bool := !t.isEmpty && t.all (fun b => !blk b.toNat) && !(t == [92])
def Sfx (s : ByteArray) (a : Nat) (ts : List (List UInt8)) : Prop := ∃ p z, (a = p ∨ (a + 1 = p ∧ byt s a = 32)) ∧ p ≤ s.size ∧ (z = [] ∨ z = [32]) ∧ s.data.toList.drop p ++ z = joinT ts
theorem byt_at_list (s : ByteArray) (i : Nat) (b : UInt8) (h : s.data.toList[i]? = some b) : byt s i = b.toNat ∧ i < s.size := by
 have hi : i < s.data.toList.length := (List.getElem?_eq_some_iff.1 h).1
 have hs : i < s.size := by simpa using hi
 refine ⟨?_, hs⟩
 rw [← byt_eq s i hs]
 have e := (List.getElem?_eq_some_iff.1 h).2
 simp only [Array.getElem_toList] at e
 rw [← e]; rfl
theorem nx_sfx {s : ByteArray} {a : Nat} {t : List UInt8} {ts : List (List UInt8)} (h : Sfx s a (t :: ts)) (ht : tokB t = true) : ∃ b e, nx s a = (⟨t.toArray⟩, b, e) ∧ Sfx s e ts := by
 obtain ⟨p, z, hp, hps, hz, hd⟩ := h
 rw [joinT_cons] at hd
 unfold tokB at ht
 simp only [Bool.and_eq_true, Bool.not_eq_true'] at ht
 obtain ⟨⟨t1, t2⟩, t3⟩ := ht
 have hne : 0 < t.length := by cases t <;> simp_all
 obtain ⟨D, hD⟩ : ∃ D, D = s.data.toList.drop p := ⟨_, rfl⟩
 rw [← hD] at hd
 have hDl : D.length = s.size - p := by rw [hD, List.length_drop]; rfl
 have hzl : z.length ≤ 1 := by rcases hz with rfl | rfl <;> simp
 have hlen : D.length + z.length = t.length + 1 + (joinT ts).length := by
  have := congrArg List.length hd
  simp at this
  omega
 have hg : ∀ j, j < D.length → (s.data.toList)[p + j]? = (t ++ 32 :: joinT ts)[j]? := fun j hj => by
  rw [← hd, List.getElem?_append_left hj, hD, List.getElem?_drop]
 have hin : ∀ j (hj : j < t.length), byt s (p + j) = t[j].toNat ∧ p + j < s.size := fun j hj => byt_at_list s _ _ (by rw [hg j (by omega), List.getElem?_append_left hj, List.getElem?_eq_getElem hj])
 have hbl : ∀ j (hj : j < t.length), blk (byt s (p + j)) = false := fun j hj => by
  rw [(hin j hj).1]
  have := List.all_eq_true.1 t2 t[j] (List.getElem_mem hj)
  simpa using this
 have hend : (t.length < D.length → byt s (p + t.length) = 32) ∧ p + t.length ≤ s.size := ⟨fun hl => (byt_at_list s _ 32 (by rw [hg _ hl, List.getElem?_append_right (Nat.le_refl _), Nat.sub_self]; rfl)).1, by omega⟩
 have hap : a ≤ p := by omega
 have eB : cutB s a = p := by
  refine scan_eq hap hps (fun x a1 a2 => ?_) (Or.inr ?_)
  ·obtain rfl : x = a := by omega
   have : byt s x = 32 := by rcases hp with h | h <;> omega
   rw [this]; rfl
  ·unfold ink
   have := hbl 0 hne
   rw [Nat.add_zero] at this
   rw [this]; rfl
 have eE : cutE s a = p + t.length := by
  unfold cutE
  rw [show scan ink s a = p from eB]
  refine scan_eq (by omega) hend.2 (fun x a1 a2 => ?_) ?_
  ·have := hbl (x - p) (by omega)
   rw [show p + (x - p) = x by omega] at this
   exact this
  ·rcases Nat.lt_or_ge t.length D.length with hl | hl
   ·exact Or.inr (by rw [hend.1 hl]; rfl)
   ·exact Or.inl (by omega)
 have hx : s.extract p (p + t.length) = ⟨t.toArray⟩ := by
  apply ByteArray.ext
  apply Array.ext'
  rw [ByteArray.data_extract, Array.toList_extract]
  show List.extract s.data.toList p (p + t.length) = t
  rw [List.extract_eq_take_drop, ← hD, Nat.add_sub_cancel_left]
  have := congrArg (List.take t.length) hd
  rw [List.take_append_of_le_length (by omega), List.take_left] at this
  exact this
 have hn : ((s.extract (cutB s a) (cutE s a)).toList == [92]) = false := by
  rw [eB, eE, hx, ba_list]; exact t3
 refine ⟨p, p + t.length, ?_, ?_⟩
 ·show nextF _ _ _ = _
  cases hf : s.size - a with
  | zero => rw [nextF, eB, eE, hx]
  | succ f => rw [nextF, if_neg (by rw [hn]; exact Bool.false_ne_true), eB, eE, hx]
 ·rcases Nat.lt_or_ge t.length D.length with hl | hl
  ·refine ⟨p + t.length + 1, z, Or.inr ⟨rfl, hend.1 hl⟩, by omega, hz, ?_⟩
   have e1 : s.data.toList.drop (p + t.length + 1) = D.drop (t.length + 1) := by rw [hD, List.drop_drop]; rfl
   have := congrArg (List.drop (t.length + 1)) hd
   rw [List.drop_append_of_le_length (by omega)] at this
   rw [e1, this]
   simp [List.drop_append]
  ·have hj : joinT ts = [] := List.length_eq_zero_iff.1 (by omega)
   refine ⟨p + t.length, [], Or.inl rfl, hend.2, Or.inl rfl, ?_⟩
   rw [hj, List.append_nil]
   exact List.drop_eq_nil_of_le (by show s.size ≤ _; omega)
theorem nx_nil {s : ByteArray} {a : Nat} (h : Sfx s a []) : ((nx s a).1.toList == []) = true := by
 obtain ⟨p, z, hp, hps, hz, hd⟩ := h
 have hz : p = s.size := by
  have := congrArg List.length hd
  simp [joinT] at this
  have e : s.data.size = s.size := rfl
  omega
 have eB : cutB s a = s.size := by
  refine scan_eq (by omega) (Nat.le_refl _) (fun x a1 a2 => ?_) (Or.inl rfl)
  obtain rfl : x = a := by omega
  have : byt s x = 32 := by rcases hp with h | h <;> omega
  rw [this]; rfl
 have eE : cutE s a = s.size := by
  unfold cutE
  rw [show scan ink s a = s.size from eB]
  exact scan_eq (Nat.le_refl _) (Nat.le_refl _) (fun x a1 a2 => by omega) (Or.inl rfl)
 have hx : s.extract s.size s.size = ⟨#[]⟩ := ByteArray.size_eq_zero_iff.1 (by simp)
 have hl : (⟨#[]⟩ : ByteArray).toList = [] := ba_list []
 have : nx s a = (⟨#[]⟩, s.size, s.size) := by
  show nextF _ _ _ = _
  cases hf : s.size - a with
  | zero => rw [nextF, eB, eE, hx]
  | succ f => rw [nextF, eB, eE, hx, if_neg (by rw [hl]; decide)]
 rw [this]
 simp only
 rw [hl]; rfl
theorem def_tok {es : List PE} {nt : Int} {s : ByteArray} {f : Nat} {tk : Int} {dc : List Int} {b : PB} {r : List PB} {kn : Inf} {a : Nat} {X : List Int × Inf × Int × Nat} {t : List UInt8} {ts : List (List UInt8)} (h : defP es nt s f tk dc (b :: r) kn a = .inl X) (hs : Sfx s a (t :: ts)) (ht : tokB t = true) :
  ∃ f' e, (stepP es nt (tk + 1) dc (b :: r) kn ⟨t.toArray⟩).1 = 0 ∧ defP es nt s f' (tk + 1) (stepP es nt (tk + 1) dc (b :: r) kn ⟨t.toArray⟩).2.1 (stepP es nt (tk + 1) dc (b :: r) kn ⟨t.toArray⟩).2.2.1 (stepP es nt (tk + 1) dc (b :: r) kn ⟨t.toArray⟩).2.2.2 e = .inl X ∧ Sfx s e ts := by
 obtain ⟨b0, e, h1, h2⟩ := nx_sfx hs ht
 cases f with
 | zero => rw [defP] at h; cases h
 | succ f =>
  rw [defP, h1] at h
  simp only at h
  split at h
  ·rename_i h0
   exact ⟨f, e, h0, h, h2⟩
  ·cases h
structure Eff (i : Inf) : Prop where
 n0 : 0 ≤ i.need
 n1 : i.need ≤ 1
 t : i.net = 0
 h0 : 0 ≤ i.high
 h1 : i.high ≤ 3
structure TEff (i : Inf) : Prop where
 n : i.need = 0
 h0 : 0 ≤ i.high
 h1 : i.high ≤ 4
def EOk (x : PE) : Prop := (x.var = true ∧ ∃ d, x.name.toList = [118, d]) ∨ (x.var = false ∧ (∃ d, x.name.toList = [119, d]) ∧ Eff x.inf) ∨ (x.var = false ∧ (∃ d, x.name.toList = [116, d]) ∧ TEff x.inf)
def EsOk (es : List PE) : Prop := ∀ x ∈ es, EOk x
theorem last_in {es : List PE} {s : ByteArray} {x : PE} : ∀ {n : Nat}, n ≤ es.length → lastP es s n = some x → x ∈ es ∧ x.name.toList = s.toList
 | 0, _, h => by cases h
 | n + 1, hn, h => by
  unfold lastP at h
  split at h
  ·rename_i hx
   obtain rfl := Option.some.inj h
   have hl : n < es.length := by omega
   rw [List.getD_eq_getElem?_getD, List.getElem?_eq_getElem hl] at hx ⊢
   exact ⟨List.getElem_mem hl, by simpa using hx⟩
  ·exact last_in (by omega) h
def notOwn (l : List UInt8) : Bool := match l with | [c, _] => c != 118 && c != 119 && c != 116 | _ => true
theorem last_no {es : List PE} (he : EsOk es) {s : ByteArray} (h : notOwn s.toList = true) : lastP es s es.length = none := by
 cases hl : lastP es s es.length with
 | none => rfl
 | some x =>
  exfalso
  obtain ⟨h1, h2⟩ := last_in (Nat.le_refl _) hl
  rw [← h2] at h
  rcases he x h1 with ⟨_, d, e⟩ | ⟨_, ⟨d, e⟩, _⟩ | ⟨_, ⟨d, e⟩, _⟩ <;> (rw [e] at h; simp [notOwn] at h)
theorem last_own {es : List PE} (he : EsOk es) {s : ByteArray} {d : UInt8} (hs : s.toList = [119, d]) {x : PE} (h : lastP es s es.length = some x) : x.var = false ∧ Eff x.inf := by
 obtain ⟨h1, h2⟩ := last_in (Nat.le_refl _) h
 rw [hs] at h2
 rcases he x h1 with ⟨_, d', e⟩ | ⟨hv, _, hf⟩ | ⟨_, ⟨d', e⟩, _⟩
 ·rw [h2] at e; simp at e
 ·exact ⟨hv, hf⟩
 ·rw [h2] at e; simp at e
theorem last_task {es : List PE} (he : EsOk es) {s : ByteArray} {d : UInt8} (hs : s.toList = [116, d]) {x : PE} (h : lastP es s es.length = some x) : x.var = false ∧ TEff x.inf := by
 obtain ⟨h1, h2⟩ := last_in (Nat.le_refl _) h
 rw [hs] at h2
 rcases he x h1 with ⟨_, d', e⟩ | ⟨_, ⟨d', e⟩, _⟩ | ⟨hv, _, hf⟩
 ·rw [h2] at e; simp at e
 ·rw [h2] at e; simp at e
 ·exact ⟨hv, hf⟩
def free (l : List UInt8) : Bool := !(l == []) && !(l == [58]) && !(l == [118, 97, 114, 105, 97, 98, 108, 101]) && !(l == [59]) && !(l == [105, 102]) && !(l == [101, 108, 115, 101]) && !(l == [116, 104, 101, 110]) && !(l == [100, 111]) && !(l == [108, 111, 111, 112])
theorem step_free {es : List PE} {nt tk : Int} {dc : List Int} {b : PB} {r : List PB} {kn : Inf} {s : ByteArray} (h : free s.toList = true) : stepP es nt tk dc (b :: r) kn s = if (numP s).2 = true then (0, dc ++ [28, (numP s).1], { b.add (opInf 28) with numbers := min (b.numbers + 1) 2, a0 := b.a1, a1 := (numP s).1 } :: r, kn) else stepW es dc b r kn s := by
 unfold free at h
 simp only [Bool.and_eq_true, Bool.not_eq_true'] at h
 obtain ⟨⟨⟨⟨⟨⟨⟨⟨h1, h2⟩, h3⟩, h4⟩, h5⟩, h6⟩, h7⟩, h8⟩, h9⟩ := h
 unfold stepP
 simp only [h1, h2, h3, h4, h5, h6, h7, h8, h9, Bool.false_eq_true, if_false]
structure Bt (b b' : PB) (i : Inf) : Prop where
 d : b'.does = b.does.then i
 o : b'.opener = b.opener
 u : b'.other = b.other
def plainE (t : ByteArray) : Option Inf := if free t.toList && notOwn t.toList then (if (numP t).2 = true then some (opInf 28) else match opFind t with | some k => some (opInf k) | none => none) else none
theorem step_plain {es : List PE} (he : EsOk es) {nt tk : Int} {dc : List Int} {b : PB} {r : List PB} {kn : Inf} {t : ByteArray} {i : Inf} (h : plainE t = some i) (h0 : (stepP es nt tk dc (b :: r) kn t).1 = 0) : ∃ b', (stepP es nt tk dc (b :: r) kn t).2.2.1 = b' :: r ∧ (stepP es nt tk dc (b :: r) kn t).2.2.2 = kn ∧ Bt b b' i := by
 unfold plainE at h
 split at h
 ·rename_i hf
  rw [Bool.and_eq_true] at hf
  rw [step_free hf.1] at h0 ⊢
  split at h
  ·rename_i hn
   obtain rfl := Option.some.inj h
   rw [if_pos hn]
   exact ⟨_, rfl, rfl, rfl, rfl, rfl⟩
  ·rename_i hn
   rw [if_neg hn] at h0 ⊢
   unfold stepW at h0 ⊢
   rw [last_no he hf.2] at h0 ⊢
   simp only at h0 ⊢
   cases hk : opFind t with
   | none => rw [hk] at h; cases h
   | some k =>
    rw [hk] at h h0
    obtain rfl := Option.some.inj h
    simp only at h0 ⊢
    split at h0
    ·simp at h0
    ·rename_i hc
     rw [if_neg hc]
     exact ⟨_, rfl, rfl, rfl, rfl, rfl⟩
 ·cases h
abbrev F3 := Int × Int × Int
def then3 (a : F3) (i : Inf) : F3 := (max a.1 (i.need - a.2.1), a.2.1 + i.net, max a.2.2 (a.2.1 + i.high))
def f3 (i : Inf) : F3 := (i.need, i.net, i.high)
theorem f3_then (a i : Inf) : f3 (a.then i) = then3 (f3 a) i := rfl
theorem f3_fold : ∀ (l : List Inf) (a : Inf), f3 (l.foldl Inf.then a) = l.foldl then3 (f3 a)
 | [], _ => rfl
 | i :: l, a => by rw [List.foldl_cons, List.foldl_cons, f3_fold l, f3_then]
theorem fold3 : ∀ (l : List Inf) (a b : F3), 0 ≤ a.1 → 0 ≤ a.2.2 → 0 ≤ b.1 → 0 ≤ b.2.2 → l.foldl then3 (max a.1 (b.1 - a.2.1), a.2.1 + b.2.1, max a.2.2 (a.2.1 + b.2.2)) = (max a.1 ((l.foldl then3 b).1 - a.2.1), a.2.1 + (l.foldl then3 b).2.1, max a.2.2 (a.2.1 + (l.foldl then3 b).2.2))
 | [], a, b, _, _, _, _ => rfl
 | i :: l, a, b, h1, h2, h3, h4 => by
  rw [List.foldl_cons, List.foldl_cons]
  have e : then3 (max a.1 (b.1 - a.2.1), a.2.1 + b.2.1, max a.2.2 (a.2.1 + b.2.2)) i = (max a.1 ((then3 b i).1 - a.2.1), a.2.1 + (then3 b i).2.1, max a.2.2 (a.2.1 + (then3 b i).2.2)) := by
   simp only [then3, Prod.mk.injEq]
   refine ⟨?_, ?_, ?_⟩ <;> omega
  rw [e]
  exact fold3 l a (then3 b i) h1 h2 (by simp only [then3]; omega) (by simp only [then3]; omega)
def effL (l : List Inf) : Bool := decide ((l.foldl then3 (0, 0, 0)).1 ≤ 1) && decide ((l.foldl then3 (0, 0, 0)).2.1 = 0) && decide ((l.foldl then3 (0, 0, 0)).2.2 ≤ 3)
theorem eff_fold {l : List Inf} {a : Inf} (h : effL l = true) (ha : Eff a) : Eff (l.foldl Inf.then a) := by
 unfold effL at h
 simp only [Bool.and_eq_true, decide_eq_true_eq] at h
 obtain ⟨⟨h1, h2⟩, h3⟩ := h
 have e := fold3 l (f3 a) (0, 0, 0) ha.n0 ha.h0 (Int.le_refl _) (Int.le_refl _)
 have hz : ((max (f3 a).1 ((0 : Int) - (f3 a).2.1), (f3 a).2.1 + 0, max (f3 a).2.2 ((f3 a).2.1 + 0)) : F3) = f3 a := by
  have := ha.n0
  have := ha.t
  have := ha.h0
  simp only [f3]
  refine Prod.ext ?_ (Prod.ext ?_ ?_) <;> simp only <;> omega
 rw [hz, ← f3_fold] at e
 have e1 := congrArg Prod.fst e
 have e2 := congrArg (fun x => x.2.1) e
 have e3 := congrArg (fun x => x.2.2) e
 simp only [f3] at e1 e2 e3
 have := ha.n0
 have := ha.n1
 have := ha.t
 have := ha.h0
 have := ha.h1
 exact ⟨by omega, by omega, by omega, by omega, by omega⟩
theorem eff_zero : Eff Inf.zero := ⟨by decide, by decide, rfl, by decide, by decide⟩
def infT (ts : List (List UInt8)) : List Inf := ts.filterMap fun t => plainE ⟨t.toArray⟩
def quietT (al : Bool) (t : List UInt8) : Bool := !al || (!(t == [64]) && !(t == [33]) && !(t == [105, 110]))
def plainG (al : Bool) (ts : List (List UInt8)) : Bool := ts.all (fun t => tokB t && (plainE ⟨t.toArray⟩).isSome && quietT al t)
def rng (d : UInt8) : Prop := 48 ≤ d.toNat ∧ d.toNat ≤ 57
inductive GT (al : Bool) : St → List (List UInt8) → St → Prop
 | var (d : UInt8) (h : rng d) : GT al .out [[118, 97, 114, 105, 97, 98, 108, 101], [118, d]] .out
 | colon (d : UInt8) (h : rng d) : GT al .out [[58], [119, d]] (.inn [])
 | plain {fs : List Nat} (ts : List (List UInt8)) (h : plainG al ts = true) (he : effL (infT ts) = true) : GT al (.inn fs) ts (.inn fs)
 | word {fs : List Nat} (d : UInt8) (h : rng d) : GT al (.inn fs) [[119, d]] (.inn fs)
 | iff {fs : List Nat} : GT al (.inn fs) [[100, 117, 112], [51], [62], [105, 102]] (.inn (0 :: fs))
 | els {fs : List Nat} : GT al (.inn (0 :: fs)) [[101, 108, 115, 101]] (.inn (1 :: fs))
 | thn0 {fs : List Nat} : GT al (.inn (0 :: fs)) [[116, 104, 101, 110]] (.inn fs)
 | thn1 {fs : List Nat} : GT al (.inn (1 :: fs)) [[116, 104, 101, 110]] (.inn fs)
 | doo {fs : List Nat} (d e : UInt8) (h : rng d) (h2 : rng e) : GT al (.inn fs) [[d], [e], [100, 111]] (.inn (2 :: fs))
 | loop {fs : List Nat} : GT al (.inn (2 :: fs)) [[105], [43], [108, 111, 111, 112]] (.inn fs)
 | semi : GT al (.inn []) [[59]] .out
def split32 : List UInt8 → List UInt8 → List (List UInt8)
 | cur, [] => [cur]
 | cur, b :: r => if b = 32 then cur :: split32 [] r else split32 (cur ++ [b]) r
theorem evens_ok : ∀ al, (evens.all fun t => plainG al (split32 [] t.data.toList) && effL (infT (split32 [] t.data.toList)) && (joinT (split32 [] t.data.toList) == t.data.toList ++ [32])) = true := by decide +kernel
theorem others_ok : (others.all fun t => plainG false (split32 [] t.data.toList) && effL (infT (split32 [] t.data.toList)) && (joinT (split32 [] t.data.toList) == t.data.toList ++ [32])) = true := by decide +kernel
theorem Gstep.toks {al : Bool} {st st' : St} {g : List UInt8} (h : Gstep al st g st') : ∃ ts, GT al st ts st' ∧ joinT ts = g ++ [32] := by
 cases h with
 | var d h => exact ⟨_, .var d h, rfl⟩
 | colon d h => exact ⟨_, .colon d h, rfl⟩
 | even h =>
  have := List.all_eq_true.1 (evens_ok al) _ h
  simp only [Bool.and_eq_true, beq_iff_eq] at this
  exact ⟨_, .plain _ this.1.1 this.1.2, this.2⟩
 | other ha h =>
  subst ha
  have := List.all_eq_true.1 others_ok _ h
  simp only [Bool.and_eq_true, beq_iff_eq] at this
  exact ⟨_, .plain _ this.1.1 this.1.2, this.2⟩
 | word d h => exact ⟨_, .word d h, rfl⟩
 | iff => exact ⟨_, .iff, rfl⟩
 | els => exact ⟨_, .els, rfl⟩
 | thn0 => exact ⟨_, .thn0, rfl⟩
 | thn1 => exact ⟨_, .thn1, rfl⟩
 | doo d e h h2 => exact ⟨_, .doo d e h h2, rfl⟩
 | loop => exact ⟨_, .loop, rfl⟩
 | semi => exact ⟨_, .semi, rfl⟩
inductive Fwd (al : Bool) : St → List (List (List UInt8)) → Prop
 | nil : Fwd al .out []
 | cons {st st' : St} {ts : List (List UInt8)} {L : List (List (List UInt8))} (h : GT al st ts st') (hl : Fwd al st' L) : Fwd al st (ts :: L)
theorem Tx.fwd {al : Bool} {st : St} {gs : List (List UInt8)} (h : Tx al st gs) : ∀ L, Fwd al st L → ∃ L', Fwd al .out L' ∧ joinT L'.flatten = (gs.map (· ++ [32])).flatten ++ joinT L.flatten := by
 induction h with
 | nil => exact fun L hL => ⟨L, hL, by simp⟩
 | snoc h hg ih =>
  intro L hL
  obtain ⟨ts, h1, h2⟩ := hg.toks
  obtain ⟨L', h3, h4⟩ := ih _ (.cons h1 hL)
  refine ⟨L', h3, ?_⟩
  rw [h4, List.flatten_cons, joinT_append, h2]
  simp
theorem TextG.fwd {al : Bool} {s : ByteArray} (h : TextG al .out s) : ∃ L, Fwd al .out L ∧ Sfx s 0 L.flatten := by
 obtain ⟨_, gs, h1, h2⟩ := h
 obtain ⟨L, h3, h4⟩ := h1.fwd [] .nil
 exact ⟨L, h3, 0, [], Or.inl rfl, Nat.zero_le _, Or.inl rfl, by rw [List.drop_zero, h2, h4]; simp [joinT]⟩
section
variable {es : List PE} {nt : Int} {s : ByteArray} {f : Nat} {tk : Int} {dc : List Int} {b : PB} {r : List PB} {kn : Inf} {a : Nat} {X : List Int × Inf × Int × Nat}
theorem read_plain {al : Bool} (he : EsOk es) {rest : List (List UInt8)} : ∀ (ts : List (List UInt8)), plainG al ts = true → ∀ (f : Nat) (tk : Int) (dc : List Int) (b : PB) (a : Nat), defP es nt s f tk dc (b :: r) kn a = .inl X → Sfx s a (ts ++ rest) → ∃ f' tk' dc' b' e, defP es nt s f' tk' dc' (b' :: r) kn e = .inl X ∧ Sfx s e rest ∧ b'.does = (infT ts).foldl Inf.then b.does ∧ b'.opener = b.opener ∧ b'.other = b.other
 | [], _, f, tk, dc, b, a, h, hs => ⟨f, tk, dc, b, a, h, hs, rfl, rfl, rfl⟩
 | t :: ts, hp, f, tk, dc, b, a, h, hs => by
  unfold plainG at hp
  rw [List.all_cons, Bool.and_eq_true, Bool.and_eq_true, Bool.and_eq_true] at hp
  obtain ⟨⟨⟨p1, p2⟩, p3⟩, p4⟩ := hp
  obtain ⟨i, hi⟩ := Option.isSome_iff_exists.1 p2
  obtain ⟨f1, e1, h0, h1, h2⟩ := def_tok h hs p1
  obtain ⟨b1, k1, k2, k3⟩ := step_plain he hi h0
  rw [k1, k2] at h1
  obtain ⟨f', tk', dc', b', e, q1, q2, q3, q4, q5⟩ := read_plain he ts p4 f1 _ _ b1 e1 h1 h2
  refine ⟨f', tk', dc', b', e, q1, q2, ?_, q4.trans k3.o, q5.trans k3.u⟩
  rw [q3, k3.d]
  unfold infT
  rw [List.filterMap_cons, hi]
  rfl
def InvB : List Nat → List PB → Prop
 | [], [b] => b.opener = 34 ∧ Eff b.does
 | 0 :: fs, b :: r => b.opener = 29 ∧ Eff b.does ∧ b.other = Inf.zero ∧ InvB fs r
 | 1 :: fs, b :: r => b.opener = 30 ∧ Eff b.does ∧ Eff b.other ∧ InvB fs r
 | 2 :: fs, b :: r => b.opener = 31 ∧ Eff b.does ∧ InvB fs r
 | _, _ => False
theorem invB_n {b : PB} (h1 : b.opener = 34) (h2 : Eff b.does) : InvB [] [b] := ⟨h1, h2⟩
theorem invB_0 {fs : List Nat} {b : PB} {r : List PB} (h1 : b.opener = 29) (h2 : Eff b.does) (h3 : b.other = Inf.zero) (h4 : InvB fs r) : InvB (0 :: fs) (b :: r) := ⟨h1, h2, h3, h4⟩
theorem invB_1 {fs : List Nat} {b : PB} {r : List PB} (h1 : b.opener = 30) (h2 : Eff b.does) (h3 : Eff b.other) (h4 : InvB fs r) : InvB (1 :: fs) (b :: r) := ⟨h1, h2, h3, h4⟩
theorem invB_2 {fs : List Nat} {b : PB} {r : List PB} (h1 : b.opener = 31) (h2 : Eff b.does) (h4 : InvB fs r) : InvB (2 :: fs) (b :: r) := ⟨h1, h2, h4⟩
theorem InvB.top : ∀ {fs : List Nat} {bl : List PB}, InvB fs bl → ∃ b r, bl = b :: r ∧ Eff b.does ∧ ∀ b', b'.opener = b.opener → b'.other = b.other → Eff b'.does → InvB fs (b' :: r)
 | [], [b], h => ⟨b, [], rfl, h.2, fun b' h1 _ h3 => ⟨h1.trans h.1, h3⟩⟩
 | 0 :: fs, b :: r, h => ⟨b, r, rfl, h.2.1, fun b' h1 h2 h3 => ⟨h1.trans h.1, h3, h2.trans h.2.2.1, h.2.2.2⟩⟩
 | 1 :: fs, b :: r, h => ⟨b, r, rfl, h.2.1, fun b' h1 h2 h3 => ⟨h1.trans h.1, h3, by rw [h2]; exact h.2.2.1, h.2.2.2⟩⟩
 | 2 :: fs, b :: r, h => ⟨b, r, rfl, h.2.1, fun b' h1 h2 h3 => ⟨h1.trans h.1, h3, h.2.2⟩⟩
 | [], [], h => h.elim
 | [], _ :: _ :: _, h => h.elim
 | _ :: _, [], h => by rename_i x y; cases x with | zero => exact h.elim | succ x => cases x with | zero => exact h.elim | succ x => cases x with | zero => exact h.elim | succ x => exact h.elim
 | (n + 3) :: fs, b :: r, h => h.elim
end
section
variable {es : List PE} {nt tk : Int} {dc : List Int} {b c : PB} {r : List PB} {kn : Inf}
theorem stp_if : stepP es nt tk dc (b :: r) kn ⟨#[105, 102]⟩ = (0, dc ++ [29, 0], PB.opened { PB.zero with opener := 29 } (b.add (opInf 29)) (dc.length + 2) :: b.add (opInf 29) :: r, kn) := by
 unfold stepP
 simp only
 rw [if_neg (by decide +kernel), if_neg (by decide +kernel), if_neg (by decide +kernel), if_neg (by decide +kernel), if_pos (by decide +kernel)]
theorem stp_else (h : b.opener = 29) : stepP es nt tk dc (b :: c :: r) kn ⟨#[101, 108, 115, 101]⟩ = (0, (dc ++ [30, 0]).set b.hole.toNat (dc.length + 2), PB.opened { PB.zero with opener := 30, other := b.does.then (opInf 30) } c (dc.length + 2) :: c :: r, kn) := by
 unfold stepP
 simp only
 rw [if_neg (by decide +kernel), if_neg (by decide +kernel), if_neg (by decide +kernel), if_neg (by decide +kernel), if_neg (by decide +kernel), if_pos (by decide +kernel), if_pos h]
theorem stp_then (h : b.opener = 29 ∨ b.opener = 30) (hn : b.does.net = b.other.net) : stepP es nt tk dc (b :: c :: r) kn ⟨#[116, 104, 101, 110]⟩ = (0, dc.set b.hole.toNat dc.length, c.add (b.does.orP b.other) :: r, kn) := by
 unfold stepP
 simp only
 rw [if_neg (by decide +kernel), if_neg (by decide +kernel), if_neg (by decide +kernel), if_neg (by decide +kernel), if_neg (by decide +kernel), if_neg (by decide +kernel), if_pos (by decide +kernel), if_pos h, if_pos hn]
theorem stp_do (h : (stepP es nt tk dc (b :: r) kn ⟨#[100, 111]⟩).1 = 0) : stepP es nt tk dc (b :: r) kn ⟨#[100, 111]⟩ = (0, dc ++ [31, 0], PB.opened { PB.zero with opener := 31, times := max 0 (b.a0 - b.a1) } (b.add (opInf 31)) (dc.length + 2) :: b.add (opInf 31) :: r, kn) := by
 unfold stepP at h ⊢
 simp only at h ⊢
 rw [if_neg (by decide +kernel), if_neg (by decide +kernel), if_neg (by decide +kernel), if_neg (by decide +kernel), if_neg (by decide +kernel), if_neg (by decide +kernel), if_neg (by decide +kernel), if_pos (by decide +kernel)] at h ⊢
 split at h
 ·simp at h
 ·rename_i h1
  split at h
  ·simp at h
  ·rename_i h2
   rw [if_neg h1, if_neg h2]
theorem stp_loop (h : b.opener = 31) (hn : b.does.net = 0) : stepP es nt tk dc (b :: c :: r) kn ⟨#[108, 111, 111, 112]⟩ = (0, (dc ++ [32, (b.hole.toNat : Int) + 1]).set b.hole.toNat (dc.length + 2), c.add ((b.does.then (opInf 32)).timesP b.times) :: r, kn) := by
 unfold stepP
 simp only
 rw [if_neg (by decide +kernel), if_neg (by decide +kernel), if_neg (by decide +kernel), if_neg (by decide +kernel), if_neg (by decide +kernel), if_neg (by decide +kernel), if_neg (by decide +kernel), if_neg (by decide +kernel), if_pos (by decide +kernel), if_pos h, if_pos hn]
theorem stp_semi (h : b.opener = 34) : stepP es nt tk dc (b :: r) kn ⟨#[59]⟩ = (endErr (b.does.then (opInf 34)).steps nt tk, dc ++ [34], [], b.does.then (opInf 34)) := by
 unfold stepP
 simp only
 rw [if_neg (by decide +kernel), if_neg (by decide +kernel), if_neg (by decide +kernel), if_pos (by decide +kernel), if_pos h]
theorem stp_own (he : EsOk es) {t : ByteArray} {d : UInt8} (ht : t.toList = [119, d]) (hn : (numP t).2 = false) (ho : opFind t = none) (h : (stepP es nt tk dc (b :: r) kn t).1 = 0) : ∃ y : PE, y.var = false ∧ Eff y.inf ∧ stepP es nt tk dc (b :: r) kn t = (0, dc ++ [y.op, y.place], b.add y.use :: r, kn) := by
 have hf : free t.toList = true := by
  rw [ht]
  unfold free
  simp
 rw [step_free hf, if_neg (by rw [hn]; decide)] at h ⊢
 unfold stepW at h ⊢
 cases hl : lastP es t es.length with
 | none => rw [hl, ho] at h; simp at h
 | some y =>
  obtain ⟨e1, e2⟩ := last_own he ht hl
  exact ⟨y, e1, e2, rfl⟩
end
theorem effq_then {a i : Inf} (ha : Eff a) (hi : Eff i) : Eff (a.then i) := by
 have := ha.n0; have := ha.n1; have := ha.t; have := ha.h0; have := ha.h1
 have := hi.n0; have := hi.n1; have := hi.t; have := hi.h0; have := hi.h1
 exact ⟨by simp only [Inf.then]; omega, by simp only [Inf.then]; omega, by simp only [Inf.then]; omega, by simp only [Inf.then]; omega, by simp only [Inf.then]; omega⟩
theorem effq_or {a i : Inf} (ha : Eff a) (hi : Eff i) : Eff (a.orP i) := by
 have := ha.n0; have := ha.n1; have := ha.t; have := ha.h0; have := ha.h1
 have := hi.n0; have := hi.n1; have := hi.t; have := hi.h0; have := hi.h1
 unfold Inf.orP
 exact ⟨by simp only; omega, by simp only; omega, by simp only; omega, by simp only; omega, by simp only; omega⟩
theorem effq_times {a : Inf} {n : Int} (ha : Eff a) : Eff (a.timesP n) := by
 unfold Inf.timesP
 split
 ·exact ⟨Int.le_refl _, (show (0 : Int) ≤ 1 by decide), rfl, Int.le_refl _, (show (0 : Int) ≤ 3 by decide)⟩
 ·exact ⟨ha.n0, ha.n1, ha.t, ha.h0, ha.h1⟩
theorem eff_op : ∀ k, k = 30 ∨ k = 32 ∨ k = 33 ∨ k = 34 → Eff (opInf k) := by
 rintro k (rfl | rfl | rfl | rfl) <;> exact ⟨by decide +kernel, by decide +kernel, by decide +kernel, by decide +kernel, by decide +kernel⟩
theorem digit_plain : ∀ d : UInt8, rng d → plainE ⟨[d].toArray⟩ = some (opInf 28) ∧ tokB [d] = true := by
 have h : ∀ k : Nat, k < 10 → (plainE ⟨[UInt8.ofNat (48 + k)].toArray⟩).isSome = true ∧ (numP ⟨[UInt8.ofNat (48 + k)].toArray⟩).2 = true ∧ (free [UInt8.ofNat (48 + k)] && notOwn [UInt8.ofNat (48 + k)]) = true ∧ tokB [UInt8.ofNat (48 + k)] = true := by decide +kernel
 intro d hd
 obtain ⟨h1, h2⟩ := hd
 obtain ⟨k, hk, e⟩ : ∃ k : Nat, k < 10 ∧ d = UInt8.ofNat (48 + k) := ⟨d.toNat - 48, by omega, by rw [show 48 + (d.toNat - 48) = d.toNat by omega]; simp⟩
 rw [e]
 obtain ⟨_, a2, a3, a4⟩ := h k hk
 refine ⟨?_, a4⟩
 unfold plainE
 rw [ba_list, if_pos a3, if_pos a2]
theorem name_plain : ∀ d : UInt8, rng d → ∀ x : UInt8, (x = 119 ∨ x = 116 ∨ x = 118) → (numP ⟨[x, d].toArray⟩).2 = false ∧ opFind ⟨[x, d].toArray⟩ = none ∧ tokB [x, d] = true := by
 have h : ∀ k : Nat, k < 10 → ∀ x : UInt8, x ∈ [(119 : UInt8), 116, 118] → (numP ⟨[x, UInt8.ofNat (48 + k)].toArray⟩).2 = false ∧ opFind ⟨[x, UInt8.ofNat (48 + k)].toArray⟩ = none ∧ tokB [x, UInt8.ofNat (48 + k)] = true := by decide +kernel
 intro d hd x hx
 obtain ⟨h1, h2⟩ := hd
 obtain ⟨k, hk, e⟩ : ∃ k : Nat, k < 10 ∧ d = UInt8.ofNat (48 + k) := ⟨d.toNat - 48, by omega, by rw [show 48 + (d.toNat - 48) = d.toNat by omega]; simp⟩
 rw [e]
 exact h k hk x (by simpa using hx)
section
variable {es : List PE} {nt : Int} {s : ByteArray}
theorem read_body {al : Bool} (he : EsOk es) {X : List Int × Inf × Int × Nat} : ∀ (L : List (List (List UInt8))) (fs : List Nat) (f : Nat) (tk : Int) (dc : List Int) (bl : List PB) (kn : Inf) (a : Nat), Fwd al (.inn fs) L → InvB fs bl → Sfx s a L.flatten → defP es nt s f tk dc bl kn a = .inl X → Eff X.2.1 ∧ ∃ L', Fwd al .out L' ∧ Sfx s X.2.2.2 L'.flatten ∧ L'.length < L.length := by
 intro L
 induction L with
 | nil => intro fs f tk dc bl kn a h; cases h
 | cons ts L ih =>
  intro fs f tk dc bl kn a hF hI hS hD
  have fin : ∀ (fs : List Nat) (f : Nat) (tk : Int) (dc : List Int) (bl : List PB) (kn : Inf) (a : Nat), Fwd al (.inn fs) L → InvB fs bl → Sfx s a L.flatten → defP es nt s f tk dc bl kn a = .inl X → Eff X.2.1 ∧ ∃ L', Fwd al .out L' ∧ Sfx s X.2.2.2 L'.flatten ∧ L'.length < (ts :: L).length := fun fs f tk dc bl kn a h1 h2 h3 h4 => by
   obtain ⟨q1, L', q2, q3, q4⟩ := ih fs f tk dc bl kn a h1 h2 h3 h4
   exact ⟨q1, L', q2, q3, by simp; omega⟩
  rw [List.flatten_cons] at hS
  cases hF with
  | cons hg hL =>
   cases hg with
   | plain ts hp he' =>
    obtain ⟨b, r, rfl, hb, hnew⟩ := hI.top
    obtain ⟨f', tk', dc', b', e, q1, q2, q3, q4, q5⟩ := read_plain he ts hp f tk dc b a hD hS
    exact fin fs f' tk' dc' _ kn e hL (hnew b' q4 q5 (by rw [q3]; exact eff_fold he' hb)) q2 q1
   | word d hd =>
    obtain ⟨b, r, rfl, hb, hnew⟩ := hI.top
    obtain ⟨n1, n2, n3⟩ := name_plain d hd 119 (Or.inl rfl)
    obtain ⟨f1, e1, h0, h1, h2⟩ := def_tok hD hS n3
    obtain ⟨y, y1, y2, y3⟩ := stp_own he (ba_list _) n1 n2 h0
    rw [y3] at h1
    refine fin fs _ _ _ _ kn _ hL (hnew (b.add y.use) rfl rfl ?_) h2 h1
    show Eff (b.does.then y.use)
    unfold PE.use
    rw [if_neg (by rw [y1]; decide)]
    exact effq_then hb (effq_then (eff_op 33 (by decide)) y2)
   | iff =>
    obtain ⟨b, r, rfl, hb, hnew⟩ := hI.top
    obtain ⟨f', tk', dc', b', e, q1, q2, q3, q4, q5⟩ := read_plain (al := false) he [[100, 117, 112], [51], [62]] (by decide +kernel) f tk dc b a hD hS
    obtain ⟨f1, e1, h0, h1, h2⟩ := def_tok q1 q2 (by decide +kernel)
    rw [show (⟨[105, 102].toArray⟩ : ByteArray) = ⟨#[105, 102]⟩ from rfl, stp_if] at h1
    refine fin (0 :: fs) _ _ _ _ kn _ hL (invB_0 rfl eff_zero rfl (hnew (b'.add (opInf 29)) q4 q5 ?_)) h2 h1
    show Eff (b'.does.then (opInf 29))
    rw [q3]
    exact eff_fold (l := infT [[100, 117, 112], [51], [62]] ++ [opInf 29]) (by decide +kernel) hb |> fun h => by rw [List.foldl_append] at h; exact h
   | els =>
    rename_i fs'
    cases bl with
    | nil => exact hI.elim
    | cons b r =>
     obtain ⟨i1, i2, i3, i4⟩ := hI
     obtain ⟨c, r', rfl, hc, _⟩ := i4.top
     obtain ⟨f1, e1, h0, h1, h2⟩ := def_tok hD hS (by decide +kernel)
     rw [show (⟨[101, 108, 115, 101].toArray⟩ : ByteArray) = ⟨#[101, 108, 115, 101]⟩ from rfl, stp_else i1] at h1
     exact fin (1 :: fs') _ _ _ _ kn _ hL (invB_1 rfl eff_zero (effq_then i2 (eff_op 30 (by decide))) i4) h2 h1
   | thn0 =>
    cases bl with
    | nil => exact hI.elim
    | cons b r =>
     obtain ⟨i1, i2, i3, i4⟩ := hI
     obtain ⟨c, r', rfl, hc, hnew⟩ := i4.top
     obtain ⟨f1, e1, h0, h1, h2⟩ := def_tok hD hS (by decide +kernel)
     rw [show (⟨[116, 104, 101, 110].toArray⟩ : ByteArray) = ⟨#[116, 104, 101, 110]⟩ from rfl, stp_then (Or.inl i1) (by rw [i2.t, i3]; rfl)] at h1
     refine fin _ _ _ _ _ kn _ hL (hnew (c.add (b.does.orP b.other)) rfl rfl ?_) h2 h1
     exact effq_then hc (effq_or i2 (by rw [i3]; exact eff_zero))
   | thn1 =>
    cases bl with
    | nil => exact hI.elim
    | cons b r =>
     obtain ⟨i1, i2, i3, i4⟩ := hI
     obtain ⟨c, r', rfl, hc, hnew⟩ := i4.top
     obtain ⟨f1, e1, h0, h1, h2⟩ := def_tok hD hS (by decide +kernel)
     rw [show (⟨[116, 104, 101, 110].toArray⟩ : ByteArray) = ⟨#[116, 104, 101, 110]⟩ from rfl, stp_then (Or.inr i1) (by rw [i2.t, i3.t])] at h1
     refine fin _ _ _ _ _ kn _ hL (hnew (c.add (b.does.orP b.other)) rfl rfl ?_) h2 h1
     exact effq_then hc (effq_or i2 i3)
   | doo d e hd he2 =>
    obtain ⟨b, r, rfl, hb, hnew⟩ := hI.top
    obtain ⟨d1, d2⟩ := digit_plain d hd
    obtain ⟨e1, e2⟩ := digit_plain e he2
    have hpl : plainG false [[d], [e]] = true := by
     simp only [plainG, List.all_cons, List.all_nil, Bool.and_true, d1, d2, e1, e2, Option.isSome_some, quietT, Bool.not_false, Bool.true_or, Bool.and_self]
    obtain ⟨f', tk', dc', b', p, q1, q2, q3, q4, q5⟩ := read_plain (al := false) he [[d], [e]] hpl f tk dc b a hD hS
    obtain ⟨f1, p1, h0, h1, h2⟩ := def_tok q1 q2 (by decide +kernel)
    rw [show (⟨[100, 111].toArray⟩ : ByteArray) = ⟨#[100, 111]⟩ from rfl] at h0 h1
    rw [stp_do h0] at h1
    refine fin (2 :: fs) _ _ _ _ kn _ hL (invB_2 rfl eff_zero (hnew (b'.add (opInf 31)) q4 q5 ?_)) h2 h1
    show Eff (b'.does.then (opInf 31))
    have hinf : infT [[d], [e]] = [opInf 28, opInf 28] := by
     unfold infT
     rw [List.filterMap_cons, d1, List.filterMap_cons, e1]
     rfl
    rw [q3, hinf]
    exact eff_fold (l := [opInf 28, opInf 28] ++ [opInf 31]) (by decide +kernel) hb |> fun h => by rw [List.foldl_append] at h; exact h
   | loop =>
    cases bl with
    | nil => exact hI.elim
    | cons b r =>
     obtain ⟨i1, i2, i4⟩ := hI
     obtain ⟨f', tk', dc', b', p, q1, q2, q3, q4, q5⟩ := read_plain (al := false) he [[105], [43]] (by decide +kernel) f tk dc b a hD hS
     obtain ⟨c, r', rfl, hc, hnew⟩ := i4.top
     obtain ⟨f1, e1, h0, h1, h2⟩ := def_tok q1 q2 (by decide +kernel)
     have hb' : Eff b'.does := by rw [q3]; exact eff_fold (by decide +kernel) i2
     rw [show (⟨[108, 111, 111, 112].toArray⟩ : ByteArray) = ⟨#[108, 111, 111, 112]⟩ from rfl, stp_loop (q4.trans i1) hb'.t] at h1
     refine fin _ _ _ _ _ kn _ hL (hnew (c.add ((b'.does.then (opInf 32)).timesP b'.times)) rfl rfl ?_) h2 h1
     exact effq_then hc (effq_times (effq_then hb' (eff_op 32 (by decide))))
   | semi =>
    cases bl with
    | nil => exact hI.elim
    | cons b r =>
     cases r with
     | cons _ _ => exact hI.elim
     | nil =>
      obtain ⟨i1, i2⟩ := hI
      obtain ⟨f1, e1, h0, h1, h2⟩ := def_tok hD hS (by decide +kernel)
      rw [show (⟨[59].toArray⟩ : ByteArray) = ⟨#[59]⟩ from rfl, stp_semi i1] at h1
      cases f1 with
      | zero => rw [defP] at h1; cases h1
      | succ f1 =>
       rw [defP] at h1
       injection h1 with h1
       rw [← h1]
       exact ⟨effq_then i2 (eff_op 34 (by decide)), L, hL, h2, by simp⟩
end
theorem def_err {es : List PE} {nt : Int} {s : ByteArray} {E P : Int} : ∀ {f : Nat} {tk : Int} {dc : List Int} {bl : List PB} {kn : Inf} {a : Nat}, defP es nt s f tk dc bl kn a = .inr (E, P) → E ≠ 0
 | 0, _, _, _, _, _, h => by
  rw [defP] at h
  injection h with h
  injection h with h1 h2
  rw [← h1]; decide
 | f + 1, tk, dc, [], kn, a, h => by rw [defP] at h; cases h
 | f + 1, tk, dc, b :: r, kn, a, h => by
  rw [defP] at h
  split at h
  ·exact def_err h
  ·rename_i h0
   injection h with h
   injection h with h1 h2
   rw [← h1]; exact h0
theorem read_all {al : Bool} {s : ByteArray} : ∀ (n : Nat) (L : List (List (List UInt8))) (f a : Nat) (es : List PE) (nv nt : Int) (code : List Int), L.length ≤ n → Fwd al .out L → Sfx s a L.flatten → EsOk es → EsOk (loadP s f a es nv nt code).2.1 := by
 intro n
 induction n with
 | zero =>
  intro L f a es nv nt code hn hF hS he
  obtain rfl : L = [] := List.length_eq_zero_iff.1 (by omega)
  cases f with
  | zero => exact he
  | succ f =>
   rw [loadP, if_pos (nx_nil (by simpa using hS))]
   exact he
 | succ n ih =>
  intro L f a es nv nt code hn hF hS he
  cases f with
  | zero => exact he
  | succ f =>
   cases hF with
   | nil =>
    rw [loadP, if_pos (nx_nil (by simpa using hS))]
    exact he
   | cons hg hL =>
    rw [List.flatten_cons] at hS
    cases hg with
    | var d hd =>
     obtain ⟨b1, e1, h1, h2⟩ := nx_sfx hS (by decide +kernel)
     obtain ⟨_, _, n3⟩ := name_plain d hd 118 (Or.inr (Or.inr rfl))
     obtain ⟨b2, e2, h3, h4⟩ := nx_sfx h2 n3
     rw [loadP, h1]
     simp only
     rw [if_neg (by decide +kernel), if_pos (by decide +kernel), h3]
     simp only
     have hv : EsOk (varP es nv s e1).2.1 := by
      unfold varP
      rw [h3]
      simp only
      split
      ·split
       ·exact he
       ·intro x hx
        rcases List.mem_append.1 hx with hx | hx
        ·exact he x hx
        ·rw [List.mem_singleton.1 hx]
         exact Or.inl ⟨rfl, d, ba_list _⟩
      ·exact he
     split
     ·exact ih _ f _ _ _ _ _ (by simpa using hn) hL h4 hv
     ·exact hv
    | colon d hd =>
     obtain ⟨b1, e1, h1, h2⟩ := nx_sfx hS (by decide +kernel)
     obtain ⟨_, _, n3⟩ := name_plain d hd 119 (Or.inl rfl)
     obtain ⟨b2, e2, h3, h4⟩ := nx_sfx h2 n3
     rw [loadP, h1]
     simp only
     rw [if_neg (by decide +kernel), if_neg (by decide +kernel), if_pos (by decide +kernel)]
     unfold wordP
     rw [h3]
     simp only
     split
     ·rename_i hr
      cases hd2 : defP es nt s (s.size + 2) 2 code [PB.first] Inf.zero e2 with
      | inr q =>
       obtain ⟨E, P⟩ := q
       simp only
       split
       ·rename_i h0
        exact absurd h0 (def_err hd2)
       ·exact he
      | inl q =>
       obtain ⟨dc, kn, tk, a'⟩ := q
       simp only
       obtain ⟨q1, L', q2, q3, q4⟩ := read_body he _ [] _ _ _ _ _ _ hL (invB_n rfl eff_zero) h4 hd2
       have he2 : EsOk (es ++ [⟨⟨[119, d].toArray⟩, false, code.length, kn⟩]) := by
        intro x hx
        rcases List.mem_append.1 hx with hx | hx
        ·exact he x hx
        ·rw [List.mem_singleton.1 hx]
         exact Or.inr (Or.inl ⟨rfl, ⟨d, ba_list _⟩, q1⟩)
       rw [if_pos trivial]
       exact ih L' f _ _ _ _ _ (by simp at hn; omega) q2 q3 he2
     ·rename_i hr
      exact he
theorem made_words {al : Bool} {s : ByteArray} (h : TextG al .out s) : EsOk (loadR s [] 0 0 []).2.1 := by
 unfold loadR
 split
 ·exact fun x hx => by cases hx
 ·obtain ⟨L, h1, h2⟩ := h.fwd
  exact read_all _ L _ 0 [] 0 0 [] (Nat.le_refl _) h1 h2 (fun x hx => by cases hx)
structure DcOk (o : List Bool) (dc : List Int) (st : List PB) : Prop where
 s : strm false dc = true
 p : ∃ e, opd false dc = o ++ e ∧ e.head? ≠ some true
 h : ∀ b ∈ st, b.opener ≠ 34 → (opd false dc)[b.hole.toNat]? = some true
section
variable {o : List Bool} {dc : List Int} {st r : List PB} {b c : PB} {k v : Int} {es : List PE} {nt tk : Int} {kn : Inf} {s : ByteArray}
theorem opd_left (h : strm false dc = true) (m : List Int) {p : Nat} (hp : (opd false dc)[p]? = some true) : (opd false (dc ++ m))[p]? = some true := by
 rw [opd_append dc m h, List.getElem?_append_left (List.getElem?_eq_some_iff.1 hp).1]
 exact hp
theorem opd_more (h : strm false dc = true) (hp : ∃ e, opd false dc = o ++ e ∧ e.head? ≠ some true) (m : List Int) : ∃ e, opd false (dc ++ m) = o ++ e ∧ e.head? ≠ some true := by
 obtain ⟨e, h1, h2⟩ := hp
 refine ⟨e ++ opd false m, by rw [opd_append dc m h, h1, List.append_assoc], ?_⟩
 cases e with
 | nil => cases m <;> simp [opd]
 | cons x e => simpa using h2
theorem DcOk.one (h : DcOk o dc st) (h1 : takes k = false) (h2 : quietC k = true) : DcOk o (dc ++ [k]) st :=
 ⟨by rw [strm_append dc _ h.s]; simp [strm, h1, h2], opd_more h.s h.p _, fun b hb ho => opd_left h.s _ (h.h b hb ho)⟩
theorem takes_quiet (h : takes k = true) : quietC k = true := by
 unfold takes at h
 unfold quietC
 simp only [Bool.and_eq_true, decide_eq_true_eq] at h ⊢
 omega
theorem DcOk.two (h : DcOk o dc st) (h1 : takes k = true) : DcOk o (dc ++ [k, v]) st ∧ (opd false (dc ++ [k, v]))[dc.length + 1]? = some true := by
 refine ⟨⟨by rw [strm_append dc _ h.s]; simp [strm, h1, takes_quiet h1], opd_more h.s h.p _, fun b hb ho => opd_left h.s _ (h.h b hb ho)⟩, ?_⟩
 rw [opd_append dc _ h.s, List.getElem?_append_right (by rw [opd_length]; omega), opd_length]
 simp [opd, h1]
theorem DcOk.set (h : DcOk o dc st) {p : Nat} (hp : (opd false dc)[p]? = some true) : DcOk o (dc.set p v) st := by
 obtain ⟨h1, h2⟩ := opd_set v dc false p hp
 exact ⟨h2.trans h.s, by rw [h1]; exact h.p, fun b hb ho => by rw [h1]; exact h.h b hb ho⟩
theorem DcOk.tail (h : DcOk o dc (b :: r)) : DcOk o dc r := ⟨h.s, h.p, fun c hc => h.h c (List.mem_cons_of_mem _ hc)⟩
theorem DcOk.cons (h : DcOk o dc r) (hb : b.opener ≠ 34 → (opd false dc)[b.hole.toNat]? = some true) : DcOk o dc (b :: r) :=
 ⟨h.s, h.p, fun c hc => by
  rcases List.mem_cons.1 hc with rfl | hc
  ·exact hb
  ·exact h.h c hc⟩
theorem DcOk.like (h : DcOk o dc (b :: r)) (h1 : c.opener = b.opener) (h2 : c.hole = b.hole) : DcOk o dc (c :: r) :=
 h.tail.cons fun ho => by rw [h2]; exact h.h b (List.mem_cons_self ..) (h1 ▸ ho)
def Qt (s : ByteArray) : Prop := ∀ k, opFind s = some k → takes (k : Int) = false ∧ quietC (k : Int) = true
theorem stepW_dc (h : DcOk o dc (b :: r)) (hq : Qt s) (h0 : (stepW es dc b r kn s).1 = 0) : DcOk o (stepW es dc b r kn s).2.1 (stepW es dc b r kn s).2.2.1 := by
 unfold stepW at h0 ⊢
 split
 ·rename_i x hx
  refine DcOk.like (b := b) (h.two ?_).1 rfl rfl
  unfold PE.op
  split <;> rfl
 ·split
  ·rename_i h1 _ h2
   rw [h1] at h0
   simp only [h2] at h0
   exact absurd h0 (by decide)
  ·rename_i h1 _ k hk
   split
   ·exact h
   ·exact DcOk.like (b := b) (h.one (hq k hk).1 (hq k hk).2) rfl rfl
theorem opened_hole (b c : PB) (n : Nat) : (PB.opened b c (n + 2)).hole.toNat = n + 1 := by
 simp [PB.opened]; omega
theorem step_dc (h : DcOk o dc st) (hq : Qt s) (h0 : (stepP es nt tk dc st kn s).1 = 0) : DcOk o (stepP es nt tk dc st kn s).2.1 (stepP es nt tk dc st kn s).2.2.1 := by
 unfold stepP at h0 ⊢
 cases st with
 | nil => exact h
 | cons b r =>
  simp only at h0 ⊢
  by_cases c1 : (s.toList == []) = true
  ·rw [if_pos c1]; exact h
  rw [if_neg c1] at h0 ⊢
  by_cases c2 : (s.toList == [58]) = true
  ·rw [if_pos c2]; exact h
  rw [if_neg c2] at h0 ⊢
  by_cases c3 : (s.toList == [118, 97, 114, 105, 97, 98, 108, 101]) = true
  ·rw [if_pos c3]; exact h
  rw [if_neg c3] at h0 ⊢
  by_cases c4 : (s.toList == [59]) = true
  ·rw [if_pos c4]
   by_cases d : b.opener = 34
   ·rw [if_pos d]
    exact ⟨(h.one (k := 34) rfl rfl).s, (h.one (k := 34) rfl rfl).p, fun _ hb => by cases hb⟩
   ·rw [if_neg d]; exact h
  rw [if_neg c4] at h0 ⊢
  by_cases c5 : (s.toList == [105, 102]) = true
  ·rw [if_pos c5]
   obtain ⟨a1, a2⟩ := h.two (k := 29) (v := 0) rfl
   exact (DcOk.like (b := b) (c := b.add (opInf 29)) a1 rfl rfl).cons fun _ => by rw [opened_hole]; exact a2
  rw [if_neg c5] at h0 ⊢
  by_cases c6 : (s.toList == [101, 108, 115, 101]) = true
  ·rw [if_pos c6] at h0 ⊢
   by_cases d : b.opener = 29
   ·rw [if_pos d] at h0 ⊢
    cases r with
    | nil => exact h
    | cons c r =>
     obtain ⟨a1, a2⟩ := h.two (k := 30) (v := 0) rfl
     have hb := a1.h b (List.mem_cons_self ..) (by rw [d]; decide)
     have e := opd_set ((dc.length : Int) + 2) _ false _ hb
     exact (a1.set hb).tail.cons fun _ => by rw [opened_hole, e.1]; exact a2
   ·rw [if_neg d]; exact h
  rw [if_neg c6] at h0 ⊢
  by_cases c7 : (s.toList == [116, 104, 101, 110]) = true
  ·rw [if_pos c7] at h0 ⊢
   by_cases d : b.opener = 29 ∨ b.opener = 30
   ·rw [if_pos d] at h0 ⊢
    by_cases d2 : b.does.net = b.other.net
    ·rw [if_pos d2] at h0 ⊢
     cases r with
     | nil => exact h
     | cons c r =>
      have hb := h.h b (List.mem_cons_self ..) (by rcases d with d | d <;> rw [d] <;> decide)
      exact DcOk.like (b := c) (h.set hb).tail rfl rfl
    ·rw [if_neg d2]; exact h
   ·rw [if_neg d]; exact h
  rw [if_neg c7] at h0 ⊢
  by_cases c8 : (s.toList == [100, 111]) = true
  ·rw [if_pos c8] at h0 ⊢
   by_cases d : b.numbers < 2
   ·rw [if_pos d]; exact h
   rw [if_neg d] at h0 ⊢
   by_cases d2 : 1000 < max 0 (b.a0 - b.a1)
   ·rw [if_pos d2]; exact h
   rw [if_neg d2] at h0 ⊢
   obtain ⟨a1, a2⟩ := h.two (k := 31) (v := 0) rfl
   exact (DcOk.like (b := b) (c := b.add (opInf 31)) a1 rfl rfl).cons fun _ => by rw [opened_hole]; exact a2
  rw [if_neg c8] at h0 ⊢
  by_cases c9 : (s.toList == [108, 111, 111, 112]) = true
  ·rw [if_pos c9] at h0 ⊢
   by_cases d : b.opener = 31
   ·rw [if_pos d] at h0 ⊢
    by_cases d2 : b.does.net = 0
    ·rw [if_pos d2] at h0 ⊢
     cases r with
     | nil => exact h
     | cons c r =>
      obtain ⟨a1, a2⟩ := h.two (k := 32) (v := (b.hole.toNat : Int) + 1) rfl
      have hb := a1.h b (List.mem_cons_self ..) (by rw [d]; decide)
      exact DcOk.like (b := c) (a1.set hb).tail rfl rfl
    ·rw [if_neg d2]; exact h
   ·rw [if_neg d]; exact h
  rw [if_neg c9] at h0 ⊢
  by_cases c10 : (numP s).2 = true
  ·rw [if_pos c10]
   exact DcOk.like (b := b) (h.two (k := 28) rfl).1 rfl rfl
  rw [if_neg c10] at h0 ⊢
  exact stepW_dc h hq h0
end
def taskT (c d k : UInt8) : List UInt8 := [58, 32, 116, c, 32, d, 32, 119, k, 32, 100, 114, 111, 112, 32, 59]
theorem drop_plain : plainE ⟨[100, 114, 111, 112].toArray⟩ = some (opInf 17) ∧ tokB [100, 114, 111, 112] = true := ⟨by kernel_rfl, by decide +kernel⟩
theorem opInf_vals : (opInf 28).need = 0 ∧ (opInf 28).net = 1 ∧ (opInf 28).high = 1 ∧ (opInf 17).need = 1 ∧ (opInf 17).net = -1 ∧ (opInf 17).high = 0 ∧ (opInf 33).need = 0 ∧ (opInf 33).net = 0 ∧ (opInf 33).high = 0 ∧ (opInf 34).need = 0 ∧ (opInf 34).net = 0 ∧ (opInf 34).high = 0 := by decide +kernel
theorem task_words {es : List PE} (he : EsOk es) {c d k : UInt8} (hc : rng c) (hd : rng d) (hk : rng k) {s : ByteArray} (hs : s.data.toList = taskT c d k) (nv nt : Int) (code : List Int) : EsOk (loadR s es nv nt code).2.1 ∧ ((loadR s es nv nt code).2.1 = es ∨ ∃ x : PE, (loadR s es nv nt code).2.1 = es ++ [x] ∧ x.name.toList = [116, c]) := by
 unfold loadR
 split
 ·exact ⟨he, Or.inl rfl⟩
 ·have hS : Sfx s 0 ([[58], [116, c], [d], [119, k], [100, 114, 111, 112], [59]]) := ⟨0, [32], Or.inl rfl, Nat.zero_le _, Or.inr rfl, by rw [List.drop_zero, hs]; rfl⟩
  obtain ⟨b1, e1, h1, h2⟩ := nx_sfx hS (by decide +kernel)
  obtain ⟨_, _, n3⟩ := name_plain c hc 116 (Or.inr (Or.inl rfl))
  obtain ⟨b2, e2, h3, h4⟩ := nx_sfx h2 n3
  rw [loadP, h1]
  simp only
  rw [if_neg (by decide +kernel), if_neg (by decide +kernel), if_pos (by decide +kernel)]
  unfold wordP
  rw [h3]
  simp only
  split
  ·rename_i hr
   cases hd2 : defP es nt s (s.size + 2) 2 code [PB.first] Inf.zero e2 with
   | inr q =>
    obtain ⟨E, P⟩ := q
    simp only
    split
    ·rename_i h0
     exact absurd h0 (def_err hd2)
    ·exact ⟨he, Or.inl rfl⟩
   | inl q =>
    obtain ⟨dc, kn, tk, a'⟩ := q
    simp only
    rw [if_pos trivial]
    have key : TEff kn ∧ Sfx s a' [] := by
     obtain ⟨d1, d2⟩ := digit_plain d hd
     have hpl : plainG false [[d]] = true := by
      simp only [plainG, List.all_cons, List.all_nil, Bool.and_true, d1, d2, Option.isSome_some, quietT, Bool.not_false, Bool.true_or, Bool.and_self]
     obtain ⟨f', tk', dc', b', p, q1, q2, q3, q4, q5⟩ := read_plain (al := false) (rest := [[119, k], [100, 114, 111, 112], [59]]) he [[d]] hpl _ _ _ _ _ hd2 h4
     obtain ⟨n1, n2, n3⟩ := name_plain k hk 119 (Or.inl rfl)
     obtain ⟨f1, p1, g0, g1, g2⟩ := def_tok q1 q2 n3
     obtain ⟨y, y1, y2, y3⟩ := stp_own he (ba_list _) n1 n2 g0
     rw [y3] at g1
     obtain ⟨m1, m2⟩ := drop_plain
     obtain ⟨f2, p2, v0, v1, v2⟩ := def_tok g1 g2 m2
     obtain ⟨b2, w1, w2, w3⟩ := step_plain he m1 v0
     rw [w1, w2] at v1
     obtain ⟨f3, p3, x0, x1, x2⟩ := def_tok v1 v2 (by decide +kernel)
     have ho : b2.opener = 34 := by rw [w3.o]; show (b'.add y.use).opener = 34; exact q4
     rw [show (⟨[59].toArray⟩ : ByteArray) = ⟨#[59]⟩ from rfl, stp_semi ho] at x1
     cases f3 with
     | zero => rw [defP] at x1; cases x1
     | succ f3 =>
      rw [defP] at x1
      injection x1 with x1
      injection x1 with z1 z2
      injection z2 with z2 z3
      injection z3 with z3 z4
      refine ⟨?_, by rw [← z4]; exact x2⟩
      have hinf : infT [[d]] = [opInf 28] := by
       unfold infT
       rw [List.filterMap_cons, d1]
       rfl
      have hb2 : b2.does = ((Inf.zero.then (opInf 28)).then y.use).then (opInf 17) := by
       rw [w3.d]
       show ((b'.does.then y.use).then (opInf 17)) = _
       rw [q3, hinf]; rfl
      have hu : y.use = (opInf 33).then y.inf := by unfold PE.use; rw [if_neg (by rw [y1]; decide)]
      rw [hb2, hu] at z2
      obtain ⟨o1, o2, o3, o4, o5, o6, o7, o8, o9, o10, o11, o12⟩ := opInf_vals
      have := y2.n0; have := y2.n1; have := y2.t; have := y2.h0; have := y2.h1
      rw [← z2]
      constructor <;> simp only [Inf.then, Inf.zero] <;> omega
    obtain ⟨t1, t2⟩ := key
    have he2 : EsOk (es ++ [⟨⟨[116, c].toArray⟩, false, code.length, kn⟩]) := by
     intro x hx
     rcases List.mem_append.1 hx with hx | hx
     ·exact he x hx
     ·rw [List.mem_singleton.1 hx]
      exact Or.inr (Or.inr ⟨rfl, ⟨c, ba_list _⟩, t1⟩)
    have hnil := nx_nil t2
    have hsz : s.size ≠ 0 := by
     have : s.size = s.data.toList.length := by simp
     rw [this, hs]; simp [taskT]
    obtain ⟨g, hg⟩ : ∃ g, s.size = g + 1 := ⟨s.size - 1, by omega⟩
    rw [hg, loadP, if_pos hnil]
    exact ⟨he2, Or.inr ⟨_, rfl, ba_list _⟩⟩
  ·exact ⟨he, Or.inl rfl⟩
section
variable {s : ByteArray} {a : Nat} {es : List PE} {nt : Int} {X : List Int × Inf × Int × Nat}
def itN (s : ByteArray) : Nat → Nat → Nat
 | 0, a => a
 | n + 1, a => itN s n (nx s a).2.2
def AllQ (s : ByteArray) (a : Nat) : Prop := ∀ n, Qt (nx s (itN s n a)).1
theorem AllQ.head (h : AllQ s a) : Qt (nx s a).1 := h 0
theorem AllQ.tail (h : AllQ s a) : AllQ s (nx s a).2.2 := fun n => h (n + 1)
theorem nx_end (h : Sfx s a []) : nx s a = (⟨#[]⟩, s.size, s.size) := by
 obtain ⟨p, z, hp, hps, hz, hd⟩ := h
 have hz : p = s.size := by
  have := congrArg List.length hd
  simp [joinT] at this
  have e : s.data.size = s.size := rfl
  omega
 have eB : cutB s a = s.size := by
  refine scan_eq (by omega) (Nat.le_refl _) (fun x a1 a2 => ?_) (Or.inl rfl)
  obtain rfl : x = a := by omega
  have : byt s x = 32 := by rcases hp with h | h <;> omega
  rw [this]; rfl
 have eE : cutE s a = s.size := by
  unfold cutE
  rw [show Go.Proofs.YtcphhbofjkenaaaGreatDoor.scan ink s a = s.size from eB]
  exact scan_eq (Nat.le_refl _) (Nat.le_refl _) (fun x a1 a2 => by omega) (Or.inl rfl)
 have hx : s.extract s.size s.size = ⟨#[]⟩ := ByteArray.size_eq_zero_iff.1 (by simp)
 have hl : (⟨#[]⟩ : ByteArray).toList = [] := ba_list []
 show nextF _ _ _ = _
 cases hf : s.size - a with
 | zero => rw [nextF, eB, eE, hx]
 | succ f => rw [nextF, eB, eE, hx, if_neg (by rw [hl]; decide)]
theorem sfx_end (s : ByteArray) : Sfx s s.size [] := ⟨s.size, [], Or.inl rfl, Nat.le_refl _, Or.inl rfl, by
 rw [List.append_nil]
 exact List.drop_eq_nil_of_le (by show s.size ≤ _; exact Nat.le_refl _)⟩
theorem qt_nil : Qt ⟨#[]⟩ := fun k h => by
 obtain ⟨i, x, _, _, _, h4⟩ := opFrom_some _ _ _ _ h
 exact absurd (show (⟨#[]⟩ : ByteArray).toList = [] from ba_list []) h4
theorem sfx_allQ : ∀ (n : Nat) {ts : List (List UInt8)} {a : Nat}, Sfx s a ts → (∀ t ∈ ts, tokB t = true ∧ Qt ⟨t.toArray⟩) → Qt (nx s (itN s n a)).1
 | 0, [], a, h, _ => by
  show Qt (nx s a).1
  rw [nx_end h]; exact qt_nil
 | 0, t :: ts, a, h, hq => by
  obtain ⟨b, e, h1, h2⟩ := nx_sfx h (hq t (List.mem_cons_self ..)).1
  show Qt (nx s a).1
  rw [h1]; exact (hq t (List.mem_cons_self ..)).2
 | n + 1, [], a, h, hq => by
  show Qt (nx s (itN s n (nx s a).2.2)).1
  rw [nx_end h]
  exact sfx_allQ n (sfx_end s) hq
 | n + 1, t :: ts, a, h, hq => by
  obtain ⟨b, e, h1, h2⟩ := nx_sfx h (hq t (List.mem_cons_self ..)).1
  show Qt (nx s (itN s n (nx s a).2.2)).1
  rw [h1]
  exact sfx_allQ n h2 (fun t ht => hq t (List.mem_cons_of_mem _ ht))
theorem def_dc {o : List Bool} : ∀ (f : Nat) (tk : Int) (dc : List Int) (st : List PB) (kn : Inf) (a : Nat), AllQ s a → DcOk o dc st → defP es nt s f tk dc st kn a = .inl X → strm false X.1 = true ∧ AllQ s X.2.2.2 ∧ ∃ e, opd false X.1 = o ++ e ∧ e.head? ≠ some true
 | 0, tk, dc, st, kn, a, hq, hd, h => by rw [defP] at h; cases h
 | f + 1, tk, dc, [], kn, a, hq, hd, h => by
  rw [defP] at h
  cases h
  exact ⟨hd.s, hq, hd.p⟩
 | f + 1, tk, dc, b :: r, kn, a, hq, hd, h => by
  rw [defP] at h
  split at h
  ·rename_i h0
   exact def_dc f _ _ _ _ _ hq.tail (step_dc hd hq.head h0) h
  ·cases h
def PlOk (es : List PE) (code : List Int) : Prop := ∀ x ∈ es, x.var = false → ∃ p : Nat, x.place = p ∧ (opd false code)[p]? ≠ some true ∧ p ≤ code.length
def CqOk (es : List PE) (code : List Int) : Prop := strm false code = true ∧ PlOk es code
theorem PlOk.more {code code' : List Int} {e : List Bool} (h : PlOk es code) (h1 : opd false code' = opd false code ++ e) (h2 : e.head? ≠ some true) : PlOk es code' := by
 have hl : code'.length = code.length + e.length := by rw [← opd_length code' false, ← opd_length code false, h1, List.length_append]
 intro x hx hv
 obtain ⟨p, e1, e2, e3⟩ := h x hx hv
 refine ⟨p, e1, ?_, by omega⟩
 rw [h1]
 by_cases hp : p < (opd false code).length
 ·rw [List.getElem?_append_left hp]; exact e2
 ·rw [List.getElem?_append_right (by omega)]
  rw [opd_length] at hp
  rw [show p - (opd false code).length = 0 by rw [opd_length]; omega, ← List.head?_eq_getElem?]
  exact h2
theorem load_dc : ∀ (f a : Nat) (es : List PE) (nv nt : Int) (code : List Int), AllQ s a → CqOk es code → CqOk (loadP s f a es nv nt code).2.1 (loadP s f a es nv nt code).2.2.2.2
 | 0, a, es, nv, nt, code, hq, hc => hc
 | f + 1, a, es, nv, nt, code, hq, hc => by
  rw [loadP]
  split
  ·exact hc
  split
  ·have hv : CqOk (varP es nv s (nx s a).2.2).2.1 code := by
    unfold varP
    split
    ·split
     ·exact hc
     ·refine ⟨hc.1, fun x hx hv => ?_⟩
      rcases List.mem_append.1 hx with hx | hx
      ·exact hc.2 x hx hv
      ·rw [List.mem_singleton.1 hx] at hv
       cases hv
    ·exact hc
   split
   ·exact load_dc f _ _ _ _ _ hq.tail.tail hv
   ·exact hv
  split
  ·have hw : CqOk (wordP es nt code s (nx s a).2.2).2.1 (wordP es nt code s (nx s a).2.2).2.2.2.1 ∧ ((wordP es nt code s (nx s a).2.2).1.1 = 0 → AllQ s (wordP es nt code s (nx s a).2.2).2.2.2.2) := by
    unfold wordP
    split
    ·rename_i hr
     cases hd : defP es nt s (s.size + 2) 2 code [PB.first] Inf.zero (nx s (nx s a).2.2).2.2 with
     | inr q =>
      obtain ⟨E, P⟩ := q
      exact ⟨hc, fun h0 => absurd h0 (def_err hd)⟩
     | inl q =>
      obtain ⟨dc, kn, tk, a'⟩ := q
      obtain ⟨h1, h2, e, h3, h4⟩ := def_dc (o := opd false code) _ _ _ _ _ _ hq.tail.tail ⟨hc.1, ⟨[], by simp, by simp⟩, fun b hb ho => by
       rw [List.mem_singleton.1 hb] at ho
       exact absurd rfl ho⟩ hd
      simp only at h1 h2 h3
      have hm := hc.2.more h3 h4
      refine ⟨⟨h1, fun x hx hv => ?_⟩, fun _ => h2⟩
      rcases List.mem_append.1 hx with hx | hx
      ·exact hm x hx hv
      ·rw [List.mem_singleton.1 hx]
       have hl : dc.length = code.length + e.length := by rw [← opd_length dc false, ← opd_length code false, h3, List.length_append]
       refine ⟨code.length, rfl, ?_, by show code.length ≤ dc.length; omega⟩
       rw [h3, List.getElem?_append_right (by rw [opd_length]; omega), opd_length, Nat.sub_self, ← List.head?_eq_getElem?]
       exact h4
    ·rename_i hr
     exact ⟨hc, fun h0 => absurd h0 hr⟩
   split
   ·rename_i h0
    exact load_dc f _ _ _ _ _ (hw.2 h0) hw.1
   ·exact hw.1
  ·exact hc
theorem loadR_dc {nv : Int} {code : List Int} {ts : List (List UInt8)} (hs : Sfx s 0 ts) (hq : ∀ t ∈ ts, tokB t = true ∧ Qt ⟨t.toArray⟩) (hc : CqOk es code) : CqOk (loadR s es nv nt code).2.1 (loadR s es nv nt code).2.2.2.2 := by
 unfold loadR
 split
 ·exact hc
 ·exact load_dc _ _ _ _ _ _ (fun n => sfx_allQ n hs hq) hc
end
theorem tab_names : ∀ i : Nat, i < 35 → (opTab.getD i (⟨#[]⟩, 0, 0)).1.data.toList = [] ∨ (opTab.getD i (⟨#[]⟩, 0, 0)).1.data.toList = [64] ∨ (opTab.getD i (⟨#[]⟩, 0, 0)).1.data.toList = [33] ∨ (opTab.getD i (⟨#[]⟩, 0, 0)).1.data.toList = [105, 110] ∨ (takes (i : Int) = false ∧ quietC (i : Int) = true) := by decide +kernel
theorem qt_of {t : List UInt8} (h : quietT true t = true) : Qt ⟨t.toArray⟩ := by
 intro k hk
 have hk0 := opFind_lt hk
 obtain ⟨i, x, h1, h2, h3, h4⟩ := opFrom_some _ _ _ _ hk
 obtain rfl : k = i := by omega
 have hx : opTab.getD k (⟨#[]⟩, 0, 0) = x := by rw [List.getD_eq_getElem?_getD, h2]; rfl
 rw [ba_list] at h3 h4
 rw [Go.Lib.toList_data] at h3
 have h3 : x.1.data.toList = t := h3
 have := tab_names k hk0
 rw [hx, h3] at this
 unfold quietT at h
 rcases this with e | e | e | e | e
 ·exact absurd e h4
 ·rw [e] at h; exact absurd h (by decide)
 ·rw [e] at h; exact absurd h (by decide)
 ·rw [e] at h; exact absurd h (by decide)
 ·exact e
theorem qt_none {s : ByteArray} (h : opFind s = none) : Qt s := fun k hk => by rw [h] at hk; cases hk
def TokQ (t : List UInt8) : Prop := tokB t = true ∧ Qt ⟨t.toArray⟩
theorem tq {t : List UInt8} (h : (tokB t && quietT true t) = true) : TokQ t := by
 rw [Bool.and_eq_true] at h
 exact ⟨h.1, qt_of h.2⟩
theorem tq_name {d : UInt8} (hd : rng d) {x : UInt8} (hx : x = 119 ∨ x = 116 ∨ x = 118) : TokQ [x, d] := by
 obtain ⟨_, h1, h2⟩ := name_plain d hd x hx
 exact ⟨h2, qt_none h1⟩
theorem tq_digit {d : UInt8} (hd : rng d) : TokQ [d] := by
 refine ⟨(digit_plain d hd).2, qt_of ?_⟩
 unfold quietT
 have h1 : d ≠ 64 := fun e => by subst e; exact absurd hd.2 (by decide)
 have h2 : d ≠ 33 := fun e => by subst e; exact absurd hd.1 (by decide)
 simp [h1, h2]
theorem GT.quiet {st st' : St} {ts : List (List UInt8)} (h : GT true st ts st') : ∀ t ∈ ts, TokQ t := by
 cases h with
 | var d h =>
  intro t ht
  simp only [List.mem_cons, List.not_mem_nil, or_false] at ht
  rcases ht with rfl | rfl
  ·exact tq (by decide +kernel)
  ·exact tq_name h (by simp)
 | colon d h =>
  intro t ht
  simp only [List.mem_cons, List.not_mem_nil, or_false] at ht
  rcases ht with rfl | rfl
  ·exact tq (by decide +kernel)
  ·exact tq_name h (by simp)
 | plain ts h he =>
  intro t ht
  have := List.all_eq_true.1 h t ht
  simp only [Bool.and_eq_true] at this
  exact ⟨this.1.1, qt_of this.2⟩
 | word d h =>
  intro t ht
  rw [List.mem_singleton.1 ht]
  exact tq_name h (by simp)
 | doo d e h h2 =>
  intro t ht
  simp only [List.mem_cons, List.not_mem_nil, or_false] at ht
  rcases ht with rfl | rfl | rfl
  ·exact tq_digit h
  ·exact tq_digit h2
  ·exact tq (by decide +kernel)
 | iff | els | thn0 | thn1 | loop | semi =>
  intro t ht
  simp only [List.mem_cons, List.not_mem_nil, or_false] at ht
  rcases ht with rfl | rfl | rfl | rfl <;> exact tq (by decide +kernel)
theorem Fwd.quiet {st : St} {L : List (List (List UInt8))} (h : Fwd true st L) : ∀ t ∈ L.flatten, TokQ t := by
 induction h with
 | nil => exact fun t ht => by simp at ht
 | cons hg hl ih =>
  intro t ht
  rw [List.flatten_cons, List.mem_append] at ht
  rcases ht with ht | ht
  ·exact hg.quiet t ht
  ·exact ih t ht
theorem made_quiet {s : ByteArray} (h : TextG true .out s) : CqOk (loadR s [] 0 0 []).2.1 (loadR s [] 0 0 []).2.2.2.2 := by
 obtain ⟨L, h1, h2⟩ := h.fwd
 exact loadR_dc h2 h1.quiet ⟨rfl, fun x hx => by cases hx⟩
theorem task_quiet {c d k : UInt8} (hc : rng c) (hd : rng d) (hk : rng k) {s : ByteArray} (hs : s.data.toList = taskT c d k) {es : List PE} {nv nt : Int} {code : List Int} (hq : CqOk es code) : CqOk (loadR s es nv nt code).2.1 (loadR s es nv nt code).2.2.2.2 := by
 have hS : Sfx s 0 ([[58], [116, c], [d], [119, k], [100, 114, 111, 112], [59]]) := ⟨0, [32], Or.inl rfl, Nat.zero_le _, Or.inr rfl, by rw [List.drop_zero, hs]; rfl⟩
 refine loadR_dc hS (fun t ht => ?_) hq
 simp only [List.mem_cons, List.not_mem_nil, or_false] at ht
 rcases ht with rfl | rfl | rfl | rfl | rfl | rfl
 ·exact tq (by decide +kernel)
 ·exact tq_name hc (by simp)
 ·exact tq_digit hd
 ·exact tq_name hk (by simp)
 ·exact tq (by decide +kernel)
 ·exact tq (by decide +kernel)
def Cut (l : List Int) (p : Nat) : Prop := (opd false l)[p]? ≠ some true ∧ p ≤ l.length
def JOk (l : List Int) : Prop := ∀ (p : Nat) (k v : Int), Cut l p → l[p]? = some k → takes k = true → k ≠ 28 → l[p + 1]? = some v → Cut l v.toNat
section
variable {l m : List Int} {p : Nat} {k v : Int}
theorem Cut.zero (l : List Int) : Cut l 0 := ⟨by cases l <;> simp [opd], Nat.zero_le _⟩
theorem Cut.end (l : List Int) : Cut l l.length := ⟨by rw [List.getElem?_eq_none (by rw [opd_length]; exact Nat.le_refl _)]; exact (fun h => by cases h), Nat.le_refl _⟩
theorem Cut.no (h : Cut l p) (hp : p < l.length) : (opd false l)[p]? = some false := by
 have hl : p < (opd false l).length := by rw [opd_length]; exact hp
 have := h.1
 rw [List.getElem?_eq_getElem hl] at this ⊢
 cases hb : (opd false l)[p] with
 | true => rw [hb] at this; exact absurd rfl this
 | false => rfl
theorem Cut.app (hs : strm false l = true) (h : Cut l p) (m : List Int) : Cut (l ++ m) p := by
 refine ⟨?_, by have := h.2; rw [List.length_append]; omega⟩
 rw [opd_append l m hs]
 by_cases hp : p < (opd false l).length
 ·rw [List.getElem?_append_left hp]; exact h.1
 ·have := h.2
  rw [List.getElem?_append_right (by omega), show p - (opd false l).length = 0 by rw [opd_length] at hp ⊢; omega]
  cases m <;> simp [opd]
theorem Cut.left (hs : strm false l = true) (h : Cut (l ++ m) p) (hp : p ≤ l.length) : Cut l p := by
 refine ⟨?_, hp⟩
 by_cases hl : p < (opd false l).length
 ·have := h.1
  rw [opd_append l m hs, List.getElem?_append_left hl] at this
  exact this
 ·rw [List.getElem?_eq_none (by omega)]
  exact fun h => by cases h
theorem Cut.set (hp : (opd false l)[p]? = some true) (q : Nat) : Cut (l.set p v) q ↔ Cut l q := by
 unfold Cut
 rw [(opd_set v l false p hp).1, List.length_set]
theorem Cut.next (hs : strm false l = true) (h : Cut l p) (hk : l[p]? = some k) : quietC k = true ∧ (takes k = false → Cut l (p + 1)) ∧ (takes k = true → Cut l (p + 2) ∧ p + 1 < l.length) := by
 have hp := (List.getElem?_eq_some_iff.1 hk).1
 obtain ⟨h1, h2, h3⟩ := strm_at l false p k hs (h.no hp) hk
 refine ⟨h1, fun ht => ⟨?_, by omega⟩, fun ht => ?_⟩
 ·rcases h2 ht with e | e
  ·rw [e]; exact (Cut.end l).1
  ·rw [e]; exact fun h => by cases h
 ·obtain ⟨a, b⟩ := h3 ht
  have ha := (List.getElem?_eq_some_iff.1 a).1
  rw [opd_length] at ha
  refine ⟨⟨?_, by omega⟩, ha⟩
  rcases b with e | e
  ·rw [e]; exact (Cut.end l).1
  ·rw [e]; exact fun h => by cases h
theorem JOk.one (hs : strm false l = true) (h : JOk l) (hk : takes k = false) : JOk (l ++ [k]) := by
 intro p x v hc hx ht h8 hv
 have hp := (List.getElem?_eq_some_iff.1 hx).1
 rw [List.length_append, List.length_singleton] at hp
 by_cases e : p < l.length
 ·rw [List.getElem?_append_left e] at hx
  have hc' := Cut.left hs hc (by omega)
  have := ((hc'.next hs hx).2.2 ht).2
  rw [List.getElem?_append_left this] at hv
  exact (h p x v hc' hx ht h8 hv).app hs _
 ·obtain rfl : p = l.length := by omega
  simp at hx
  rw [← hx, hk] at ht
  cases ht
theorem JOk.two (hs : strm false l = true) (h : JOk l) (hk : takes k = true) (hv : k = 28 ∨ Cut (l ++ [k, v]) v.toNat) : JOk (l ++ [k, v]) := by
 intro p x y hc hx ht h8 hy
 have hp := (List.getElem?_eq_some_iff.1 hx).1
 simp only [List.length_append, List.length_cons, List.length_nil] at hp
 by_cases e : p < l.length
 ·rw [List.getElem?_append_left e] at hx
  have hc' := Cut.left hs hc (by omega)
  have := ((hc'.next hs hx).2.2 ht).2
  rw [List.getElem?_append_left this] at hy
  exact (h p x y hc' hx ht h8 hy).app hs _
 ·by_cases e2 : p = l.length
  ·subst e2
   simp at hx hy
   subst hx; subst hy
   rcases hv with e | e
   ·exact absurd e h8
   ·exact e
  ·exfalso
   obtain rfl : p = l.length + 1 := by omega
   have := hc.1
   rw [opd_append l _ hs, List.getElem?_append_right (by rw [opd_length]; omega), opd_length] at this
   simp [opd, hk] at this
theorem JOk.set (h : JOk l) (hp : (opd false l)[p]? = some true) (hv : Cut l v.toNat) : JOk (l.set p v) := by
 intro q x y hc hx ht h8 hy
 rw [Cut.set hp] at hc ⊢
 have hqp : q ≠ p := fun e => by subst e; exact hc.1 hp
 rw [List.getElem?_set_ne (fun e => hqp e.symm)] at hx
 by_cases e : q + 1 = p
 ·subst e
  rw [List.getElem?_set_self (by have := (List.getElem?_eq_some_iff.1 hp).1; rwa [opd_length] at this)] at hy
  cases hy
  exact hv
 ·rw [List.getElem?_set_ne (fun e' => e e'.symm)] at hy
  exact h q x y hc hx ht h8 hy
end
section
variable {o : List Bool} {dc : List Int} {st r : List PB} {b c : PB} {k v : Int} {es : List PE} {nt tk : Int} {kn : Inf} {s : ByteArray} {a : Nat} {X : List Int × Inf × Int × Nat}
theorem opd_after : ∀ (l : List Int) (b : Bool) (p : Nat), (opd b l)[p]? = some true → (opd b l)[p + 1]? ≠ some true
 | [], b, p, h => by cases b <;> simp [opd] at h
 | k :: r, true, 0, h => by cases r <;> simp [opd]
 | k :: r, false, 0, h => by simp [opd] at h
 | k :: r, true, p + 1, h => by
  simp only [opd, List.getElem?_cons_succ] at h ⊢
  exact opd_after r false p h
 | k :: r, false, p + 1, h => by
  simp only [opd, List.getElem?_cons_succ] at h ⊢
  exact opd_after r (takes k) p h
theorem Cut.after {l : List Int} {p : Nat} (h : (opd false l)[p]? = some true) : Cut l (p + 1) :=
 ⟨opd_after l false p h, by have := (List.getElem?_eq_some_iff.1 h).1; rw [opd_length] at this; omega⟩
theorem stepW_j (h : DcOk o dc (b :: r)) (hj : JOk dc) (hp : PlOk es dc) (hq : Qt s) (h0 : (stepW es dc b r kn s).1 = 0) : JOk (stepW es dc b r kn s).2.1 := by
 unfold stepW at h0 ⊢
 split
 ·rename_i x hx
  have hm := (last_in (Nat.le_refl _) hx).1
  cases hv : x.var with
  | true => exact hj.two h.s (by unfold PE.op; rw [hv]; rfl) (Or.inl (by unfold PE.op; rw [hv]; rfl))
  | false =>
   refine hj.two h.s (by unfold PE.op; rw [hv]; rfl) (Or.inr ?_)
   obtain ⟨p, e1, e2, e3⟩ := hp x hm hv
   rw [e1]
   exact Cut.app h.s ⟨e2, e3⟩ _
 ·split
  ·exact hj
  ·rename_i k hk
   split
   ·exact hj
   ·exact hj.one h.s (hq k hk).1
theorem step_j (h : DcOk o dc st) (hj : JOk dc) (hp : PlOk es dc) (hq : Qt s) (h0 : (stepP es nt tk dc st kn s).1 = 0) : JOk (stepP es nt tk dc st kn s).2.1 := by
 unfold stepP at h0 ⊢
 cases st with
 | nil => exact hj
 | cons b r =>
  simp only at h0 ⊢
  by_cases c1 : (s.toList == []) = true
  ·rw [if_pos c1]; exact hj
  rw [if_neg c1] at h0 ⊢
  by_cases c2 : (s.toList == [58]) = true
  ·rw [if_pos c2]; exact hj
  rw [if_neg c2] at h0 ⊢
  by_cases c3 : (s.toList == [118, 97, 114, 105, 97, 98, 108, 101]) = true
  ·rw [if_pos c3]; exact hj
  rw [if_neg c3] at h0 ⊢
  by_cases c4 : (s.toList == [59]) = true
  ·rw [if_pos c4]
   by_cases d : b.opener = 34
   ·rw [if_pos d]; exact hj.one h.s rfl
   ·rw [if_neg d]; exact hj
  rw [if_neg c4] at h0 ⊢
  by_cases c5 : (s.toList == [105, 102]) = true
  ·rw [if_pos c5]; exact hj.two h.s rfl (Or.inr (Cut.zero _))
  rw [if_neg c5] at h0 ⊢
  by_cases c6 : (s.toList == [101, 108, 115, 101]) = true
  ·rw [if_pos c6] at h0 ⊢
   by_cases d : b.opener = 29
   ·rw [if_pos d] at h0 ⊢
    cases r with
    | nil => exact hj
    | cons c r =>
     obtain ⟨a1, a2⟩ := h.two (k := 30) (v := 0) rfl
     have hb := a1.h b (List.mem_cons_self ..) (by rw [d]; decide)
     have hj2 : JOk (dc ++ [30, 0]) := hj.two h.s rfl (Or.inr (Cut.zero _))
     refine JOk.set hj2 hb ?_
     have := Cut.end (dc ++ [30, 0])
     rw [show ((dc.length : Int) + 2).toNat = (dc ++ [30, 0]).length by simp; omega]
     exact this
   ·rw [if_neg d]; exact hj
  rw [if_neg c6] at h0 ⊢
  by_cases c7 : (s.toList == [116, 104, 101, 110]) = true
  ·rw [if_pos c7] at h0 ⊢
   by_cases d : b.opener = 29 ∨ b.opener = 30
   ·rw [if_pos d] at h0 ⊢
    by_cases d2 : b.does.net = b.other.net
    ·rw [if_pos d2] at h0 ⊢
     cases r with
     | nil => exact hj
     | cons c r =>
      have hb := h.h b (List.mem_cons_self ..) (by rcases d with d | d <;> rw [d] <;> decide)
      exact JOk.set hj hb (by rw [Int.toNat_natCast]; exact Cut.end dc)
    ·rw [if_neg d2]; exact hj
   ·rw [if_neg d]; exact hj
  rw [if_neg c7] at h0 ⊢
  by_cases c8 : (s.toList == [100, 111]) = true
  ·rw [if_pos c8] at h0 ⊢
   by_cases d : b.numbers < 2
   ·rw [if_pos d]; exact hj
   rw [if_neg d] at h0 ⊢
   by_cases d2 : 1000 < max 0 (b.a0 - b.a1)
   ·rw [if_pos d2]; exact hj
   rw [if_neg d2] at h0 ⊢
   exact hj.two h.s rfl (Or.inr (Cut.zero _))
  rw [if_neg c8] at h0 ⊢
  by_cases c9 : (s.toList == [108, 111, 111, 112]) = true
  ·rw [if_pos c9] at h0 ⊢
   by_cases d : b.opener = 31
   ·rw [if_pos d] at h0 ⊢
    by_cases d2 : b.does.net = 0
    ·rw [if_pos d2] at h0 ⊢
     cases r with
     | nil => exact hj
     | cons c r =>
      have hb0 := h.h b (List.mem_cons_self ..) (by rw [d]; decide)
      obtain ⟨a1, a2⟩ := h.two (k := 32) (v := (b.hole.toNat : Int) + 1) rfl
      have hb := a1.h b (List.mem_cons_self ..) (by rw [d]; decide)
      have hj2 : JOk (dc ++ [32, (b.hole.toNat : Int) + 1]) := hj.two h.s rfl (Or.inr (by
       rw [show ((b.hole.toNat : Int) + 1).toNat = b.hole.toNat + 1 by omega]
       exact (Cut.after hb0).app h.s _))
      refine JOk.set hj2 hb ?_
      have := Cut.end (dc ++ [32, (b.hole.toNat : Int) + 1])
      rw [show ((dc.length : Int) + 2).toNat = (dc ++ [32, (b.hole.toNat : Int) + 1]).length by simp; omega]
      exact this
    ·rw [if_neg d2]; exact hj
   ·rw [if_neg d]; exact hj
  rw [if_neg c9] at h0 ⊢
  by_cases c10 : (numP s).2 = true
  ·rw [if_pos c10]
   exact hj.two h.s rfl (Or.inl rfl)
  rw [if_neg c10] at h0 ⊢
  exact stepW_j h hj hp hq h0
theorem def_j {code : List Int} (hp : PlOk es code) : ∀ (f : Nat) (tk : Int) (dc : List Int) (st : List PB) (kn : Inf) (a : Nat), AllQ s a → DcOk (opd false code) dc st → JOk dc → defP es nt s f tk dc st kn a = .inl X → JOk X.1
 | 0, tk, dc, st, kn, a, hq, hd, hj, h => by rw [defP] at h; cases h
 | f + 1, tk, dc, [], kn, a, hq, hd, hj, h => by
  rw [defP] at h
  cases h
  exact hj
 | f + 1, tk, dc, b :: r, kn, a, hq, hd, hj, h => by
  rw [defP] at h
  split at h
  ·rename_i h0
   obtain ⟨e, e1, e2⟩ := hd.p
   exact def_j hp f _ _ _ _ _ hq.tail (step_dc hd hq.head h0) (step_j hd hj (hp.more e1 e2) hq.head h0) h
  ·cases h
theorem load_j : ∀ (f a : Nat) (es : List PE) (nv nt : Int) (code : List Int), AllQ s a → CqOk es code → JOk code → JOk (loadP s f a es nv nt code).2.2.2.2
 | 0, a, es, nv, nt, code, hq, hc, hj => hj
 | f + 1, a, es, nv, nt, code, hq, hc, hj => by
  rw [loadP]
  split
  ·exact hj
  split
  ·have hv : CqOk (varP es nv s (nx s a).2.2).2.1 code := by
    unfold varP
    split
    ·split
     ·exact hc
     ·refine ⟨hc.1, fun x hx hv => ?_⟩
      rcases List.mem_append.1 hx with hx | hx
      ·exact hc.2 x hx hv
      ·rw [List.mem_singleton.1 hx] at hv
       cases hv
    ·exact hc
   split
   ·exact load_j f _ _ _ _ _ hq.tail.tail hv hj
   ·exact hj
  split
  ·have hw : JOk (wordP es nt code s (nx s a).2.2).2.2.2.1 ∧ CqOk (wordP es nt code s (nx s a).2.2).2.1 (wordP es nt code s (nx s a).2.2).2.2.2.1 ∧ ((wordP es nt code s (nx s a).2.2).1.1 = 0 → AllQ s (wordP es nt code s (nx s a).2.2).2.2.2.2) := by
    unfold wordP
    split
    ·rename_i hr
     cases hd : defP es nt s (s.size + 2) 2 code [PB.first] Inf.zero (nx s (nx s a).2.2).2.2 with
     | inr q =>
      obtain ⟨E, P⟩ := q
      exact ⟨hj, hc, fun h0 => absurd h0 (def_err hd)⟩
     | inl q =>
      obtain ⟨dc, kn, tk, a'⟩ := q
      have hD : DcOk (opd false code) code [PB.first] := ⟨hc.1, ⟨[], by simp, by simp⟩, fun b hb ho => by
       rw [List.mem_singleton.1 hb] at ho
       exact absurd rfl ho⟩
      obtain ⟨h1, h2, e, h3, h4⟩ := def_dc _ _ _ _ _ _ hq.tail.tail hD hd
      have h5 := def_j hc.2 _ _ _ _ _ _ hq.tail.tail hD hj hd
      simp only at h1 h2 h3 h5
      have hm := hc.2.more h3 h4
      refine ⟨h5, ⟨h1, fun x hx hv => ?_⟩, fun _ => h2⟩
      rcases List.mem_append.1 hx with hx | hx
      ·exact hm x hx hv
      ·rw [List.mem_singleton.1 hx]
       have hl : dc.length = code.length + e.length := by rw [← opd_length dc false, ← opd_length code false, h3, List.length_append]
       refine ⟨code.length, rfl, ?_, by show code.length ≤ dc.length; omega⟩
       rw [h3, List.getElem?_append_right (by rw [opd_length]; omega), opd_length, Nat.sub_self, ← List.head?_eq_getElem?]
       exact h4
    ·rename_i hr
     exact ⟨hj, hc, fun h0 => absurd h0 hr⟩
   split
   ·rename_i h0
    exact load_j f _ _ _ _ _ (hw.2.2 h0) hw.2.1 hw.1
   ·exact hw.1
  ·exact hj
theorem loadR_j {nv : Int} {code : List Int} {ts : List (List UInt8)} (hs : Sfx s 0 ts) (hq : ∀ t ∈ ts, tokB t = true ∧ Qt ⟨t.toArray⟩) (hc : CqOk es code) (hj : JOk code) : JOk (loadR s es nv nt code).2.2.2.2 := by
 unfold loadR
 split
 ·exact hj
 ·exact load_j _ _ _ _ _ _ (fun n => sfx_allQ n hs hq) hc hj
end
structure QCode (es : List PE) (code : List Int) : Prop where
 c : CqOk es code
 j : JOk code
theorem made_qcode {s : ByteArray} (h : TextG true .out s) : QCode (loadR s [] 0 0 []).2.1 (loadR s [] 0 0 []).2.2.2.2 := by
 obtain ⟨L, h1, h2⟩ := h.fwd
 exact ⟨made_quiet h, loadR_j h2 h1.quiet ⟨rfl, fun x hx => by cases hx⟩ (fun p k v _ hk => by simp at hk)⟩
theorem task_qcode {c d k : UInt8} (hc : rng c) (hd : rng d) (hk : rng k) {s : ByteArray} (hs : s.data.toList = taskT c d k) {es : List PE} {nv nt : Int} {code : List Int} (hq : QCode es code) : QCode (loadR s es nv nt code).2.1 (loadR s es nv nt code).2.2.2.2 := by
 have hS : Sfx s 0 ([[58], [116, c], [d], [119, k], [100, 114, 111, 112], [59]]) := ⟨0, [32], Or.inl rfl, Nat.zero_le _, Or.inr rfl, by rw [List.drop_zero, hs]; rfl⟩
 refine ⟨task_quiet hc hd hk hs hq.c, loadR_j hS (fun t ht => ?_) hq.c hq.j⟩
 simp only [List.mem_cons, List.not_mem_nil, or_false] at ht
 rcases ht with rfl | rfl | rfl | rfl | rfl | rfl
 ·exact tq (by decide +kernel)
 ·exact tq_name hc (by simp)
 ·exact tq_digit hd
 ·exact tq_name hk (by simp)
 ·exact tq (by decide +kernel)
 ·exact tq (by decide +kernel)
def CutM (code : List Int) (m : MS) : Prop := Cut code m.at_ ∧ ∀ c ∈ m.calls, Cut code c.toNat
section
variable {es : List PE} {code : List Int} {m : MS} {u : MW} {k : Nat}
theorem cut_quiet (hq : QCode es code) (h : CutM code m) (hk : code[m.at_]? = some (k : Int)) : quietK k := by
 have := quietC_K (Cut.next hq.c.1 h.1 hk).1 (by omega)
 simpa using this
theorem step_cut (hq : QCode es code) (h : CutM code m) (hk : code[m.at_]? = some (k : Int)) (h35 : k < 35) : CutM code (stepM code m u).2.1 := by
 obtain ⟨n1, n2, n3⟩ := Cut.next hq.c.1 h.1 hk
 have hg : (code.getD m.at_ 0).toNat = k := by rw [List.getD_eq_getElem?_getD, hk]; simp
 obtain ⟨st, lo, ca, at_⟩ := m
 simp only at hk hg n2 n3
 unfold stepM
 simp only [hg]
 split
 ·exact h
 have h1 : takes (k : Int) = false → Cut code (at_ + 1) := n2
 have h2 : takes (k : Int) = true → Cut code (at_ + 2) := fun ht => (n3 ht).1
 have hv : takes (k : Int) = true → k ≠ 28 → Cut code (code.getD (at_ + 1) 0).toNat := fun ht h8 => by
  have hl := (n3 ht).2
  refine hq.j at_ k _ h.1 hk ht (by omega) ?_
  rw [List.getD_eq_getElem?_getD, List.getElem?_eq_getElem hl]; rfl
 have ht1 : k < 28 ∨ k = 34 → takes (k : Int) = false := fun e => by
  unfold takes
  rw [Bool.and_eq_false_iff]
  rcases e with e | e
  ·exact Or.inl (decide_eq_false (by omega))
  ·exact Or.inr (decide_eq_false (by omega))
 have ht2 : 28 ≤ k → k ≤ 33 → takes (k : Int) = true := fun a b => by
  unfold takes
  rw [Bool.and_eq_true, decide_eq_true_eq, decide_eq_true_eq]
  omega
 have hc := h.2
 unfold execM
 simp only
 by_cases c1 : k ≤ 12
 ·rw [if_pos c1]
  rcases st with _ | ⟨a, _ | ⟨b, s⟩⟩ <;> first | exact h | exact ⟨h1 (ht1 (by omega)), hc⟩
 rw [if_neg c1]
 by_cases c2 : k ≤ 15
 ·rw [if_pos c2]
  rcases st with _ | ⟨a, s⟩ <;> first | exact h | exact ⟨h1 (ht1 (by omega)), hc⟩
 rw [if_neg c2]
 by_cases c3 : k ≤ 22
 ·rw [if_pos c3]; exact ⟨h1 (ht1 (by omega)), hc⟩
 rw [if_neg c3]
 by_cases c4 : k = 23
 ·rw [if_pos c4]
  rcases st with _ | ⟨a, s⟩ <;> first | exact h | exact ⟨h1 (ht1 (by omega)), hc⟩
 rw [if_neg c4]
 by_cases c5 : k = 24
 ·rw [if_pos c5]
  rcases st with _ | ⟨a, _ | ⟨b, s⟩⟩ <;> first | exact h | exact ⟨h1 (ht1 (by omega)), hc⟩
 rw [if_neg c5]
 by_cases c6 : k = 25
 ·rw [if_pos c6]; exact ⟨h1 (ht1 (by omega)), hc⟩
 rw [if_neg c6]
 by_cases c7 : k = 26
 ·rw [if_pos c7]
  rcases st with _ | ⟨a, s⟩ <;> first | exact h | exact ⟨h1 (ht1 (by omega)), hc⟩
 rw [if_neg c7]
 by_cases c8 : k = 27
 ·rw [if_pos c8]; exact ⟨h1 (ht1 (by omega)), hc⟩
 rw [if_neg c8]
 by_cases c9 : k = 28
 ·rw [if_pos c9]; exact ⟨h2 (ht2 (by omega) (by omega)), hc⟩
 rw [if_neg c9]
 by_cases c10 : k = 29
 ·rw [if_pos c10]
  rcases st with _ | ⟨a, s⟩
  ·exact h
  ·refine ⟨?_, hc⟩
   simp only
   split
   ·exact hv (ht2 (by omega) (by omega)) (by omega)
   ·exact h2 (ht2 (by omega) (by omega))
 rw [if_neg c10]
 by_cases c11 : k = 30
 ·rw [if_pos c11]; exact ⟨hv (ht2 (by omega) (by omega)) (by omega), hc⟩
 rw [if_neg c11]
 by_cases c12 : k = 31
 ·rw [if_pos c12]
  rcases st with _ | ⟨a, _ | ⟨b, s⟩⟩
  ·exact h
  ·exact h
  ·simp only
   split
   ·exact ⟨h2 (ht2 (by omega) (by omega)), hc⟩
   ·exact ⟨hv (ht2 (by omega) (by omega)) (by omega), hc⟩
 rw [if_neg c12]
 by_cases c13 : k = 32
 ·rw [if_pos c13]
  simp only
  split
  ·exact ⟨hv (ht2 (by omega) (by omega)) (by omega), hc⟩
  ·exact ⟨h2 (ht2 (by omega) (by omega)), hc⟩
 rw [if_neg c13]
 by_cases c14 : k = 33
 ·rw [if_pos c14]
  refine ⟨hv (ht2 (by omega) (by omega)) (by omega), fun c hcc => ?_⟩
  rcases List.mem_append.1 hcc with e | e
  ·exact hc c e
  ·rw [List.mem_singleton.1 e, Int.toNat_natCast]
   exact h2 (ht2 (by omega) (by omega))
 rw [if_neg c14]
 by_cases c15 : ca = []
 ·rw [if_pos c15]
  exact ⟨h1 (ht1 (by omega)), hc⟩
 ·rw [if_neg c15]
  refine ⟨?_, fun c hcc => hc c (List.dropLast_subset ca hcc)⟩
  simp only
  rw [List.getLastD_eq_getLast?, List.getLast?_eq_some_getLast c15]
  exact hc _ (List.getLast_mem c15)
end
def xS (code : List Int) (m0 : MS) : Nat → MS
 | 0 => m0
 | k + 1 => (stepM code (xS code m0 k) noMW).2.1
def xO (code : List Int) (m0 : MS) : Nat → List Int
 | 0 => []
 | k + 1 => xO code m0 k ++ (stepM code (xS code m0 k) noMW).2.2.outs
def xE (code : List Int) (m0 : MS) (k : Nat) : Int := (stepM code (xS code m0 k) noMW).1
structure XRun (code : List Int) (m0 : MS) (N : Nat) : Prop where
 q : ∀ j, j ≤ N → quietK (code.getD (xS code m0 j).at_ 0).toNat
 go : ∀ j, j < N → xE code m0 j = 4
 fin : xE code m0 N = 0
section
variable {code : List Int} {m0 : MS} {N : Nat} {u : MW}
theorem put_put (u : MW) (a b : List Int) : (u.put a).put b = u.put (a ++ b) := by simp [MW.put]
theorem put_nil (u : MW) : u.put [] = u := by simp [MW.put]
theorem XRun.step (h : XRun code m0 N) {j : Nat} (hj : j ≤ N) (u : MW) : stepM code (xS code m0 j) u = (xE code m0 j, xS code m0 (j + 1), u.put (stepM code (xS code m0 j) noMW).2.2.outs) := step_quiet (h.q j hj) u
theorem XRun.run (h : XRun code m0 N) : ∀ (d j f n : Nat) (u : MW), j + d = N → d < f → runM code f n (xS code m0 j) (u.put (xO code m0 j)) = (n + d + 1, 0, xS code m0 (N + 1), u.put (xO code m0 (N + 1)))
 | 0, j, f, n, u, hj, hf => by
  obtain rfl : j = N := by omega
  cases f with
  | zero => omega
  | succ f =>
   rw [runM, h.step (Nat.le_refl _), h.fin]
   simp only
   rw [if_neg (by decide), put_put]
   rfl
 | d + 1, j, f, n, u, hj, hf => by
  cases f with
  | zero => omega
  | succ f =>
   rw [runM, h.step (by omega), h.go j (by omega)]
   simp only
   rw [if_pos trivial, put_put]
   have := h.run d (j + 1) f (n + 1) u (by omega) (by omega)
   rw [show n + (d + 1) + 1 = n + 1 + d + 1 by omega]
   exact this
theorem XRun.runs (h : XRun code m0 N) {f : Nat} (hf : N < f) (u : MW) : runM code f 0 m0 u = (N + 1, 0, xS code m0 (N + 1), u.put (xO code m0 (N + 1))) := by
 have := h.run N 0 f 0 u (by omega) hf
 rw [show xO code m0 0 = [] from rfl, put_nil] at this
 rw [Nat.zero_add] at this
 exact this
end
section
variable {es : List PE} {code : List Int} {ws : List RW} {m0 : MS} {N k : Nat} {s : List Int} {n : Nat}
theorem hind_not3 (h : quietK k) : hindP k s n ≠ 3 := by
 obtain ⟨h1, h2, h3⟩ := h
 unfold hindP
 split
 ·decide
 ·rw [if_neg (fun e => by rcases e.1 with e | e <;> contradiction)]
  split <;> decide
theorem ite_end {c : Prop} [Decidable c] {x y : Int × MS × MW} (hx : x.1 = 4 ∨ x.1 = 0) (hy : y.1 = 4 ∨ y.1 = 0) : (if c then x else y).1 = 4 ∨ (if c then x else y).1 = 0 := by
 split
 ·exact hx
 ·exact hy
theorem exec_end (k : Nat) (v : Int) (m : MS) (u : MW) : (execM k v m u).1 = 4 ∨ (execM k v m u).1 = 0 := by
 obtain ⟨st, lo, ca, a0⟩ := m
 unfold execM
 rcases st with _ | ⟨a, _ | ⟨b, s⟩⟩
 all_goals
  repeat' (first | exact Or.inl rfl | exact Or.inr rfl | refine ite_end ?_ ?_)
theorem step_not3 {m : MS} {u : MW} (h : quietK (code.getD m.at_ 0).toNat) : (stepM code m u).1 ≠ 3 := by
 unfold stepM
 split
 ·exact hind_not3 h
 ·rcases exec_end (code.getD m.at_ 0).toNat (code.getD (m.at_ + 1) 0) m u with e | e <;> rw [e] <;> decide
theorem xS_head (m0 : MS) : ∀ j, xS code m0 (j + 1) = xS code (stepM code m0 noMW).2.1 j
 | 0 => rfl
 | j + 1 => by rw [xS, xS_head m0 j]; rfl
theorem XRun.cons (hq : quietK (code.getD m0.at_ 0).toNat) (h4 : (stepM code m0 noMW).1 = 4) (h : XRun code (stepM code m0 noMW).2.1 N) : XRun code m0 (N + 1) := by
 refine ⟨fun j hj => ?_, fun j hj => ?_, ?_⟩
 ·cases j with
  | zero => exact hq
  | succ j => rw [xS_head]; exact h.q j (by omega)
 ·cases j with
  | zero => exact h4
  | succ j =>
   unfold xE
   rw [xS_head]; exact h.go j (by omega)
 ·unfold xE
  rw [xS_head]; exact h.fin
theorem xrun_of (hc : Coded es code ws) (ha : Alike es ws) (hq : QCode es code) : ∀ (N n : Nat) (fs : List Fr) (m : MS), Sim es code n fs m noMW → Left ws N fs m.stk → CutM code m → ∃ k, k < N ∧ XRun code m k
 | 0, _, _, _, _, h, _ => h.elim
 | N + 1, n, fs, m, hS, hl, hm => by
  obtain ⟨d, hr⟩ := hS.rel
  obtain ⟨k, hk, hk2⟩ := (conc_step (u := noMW) hc ha hr m rfl rfl rfl hS.wl).op
  have hqk : quietK (code.getD m.at_ 0).toNat := by
   rw [List.getD_eq_getElem?_getD, hk2]
   exact cut_quiet hq hm hk2
  obtain ⟨s1, s2, s3, s4⟩ := hS.step hc ha
  rcases hl noMW ⟨(fun a h => by cases h), (fun a h => by cases h)⟩ with e | e | ⟨e, hl'⟩
  ·refine ⟨0, by omega, fun j hj => ?_, fun j hj => by omega, ?_⟩
   ·obtain rfl : j = 0 := by omega
    exact hqk
   ·exact s1.trans e
  ·exact absurd (s1.trans e) (step_not3 hqk)
  ·have hS' := s4 e
   rw [← s2] at hl'
   obtain ⟨k, hk, hx⟩ := xrun_of hc ha hq N (n + 1) _ (stepM code m noMW).2.1 ⟨hS'.rel, ⟨hS'.wl.s, (fun a h => by cases h), (fun a h => by cases h), hS'.wl.l⟩, hS'.l1, hS'.l2, Nat.zero_le _, hS'.l4⟩ hl' (step_cut hq hm hk2 hk)
   exact ⟨k + 1, by omega, hx.cons hqk (s1.trans e)⟩
theorem xO_le (m0 : MS) : ∀ (j d : Nat), xO code m0 j <+: xO code m0 (j + d)
 | j, 0 => List.prefix_refl _
 | j, d + 1 => (xO_le m0 j d).trans (List.prefix_append _ _)
end
attribute [local go_sem] quietG
end Go.Proofs.YtcphhbofjkenaaaGreatDoor
namespace Go.Proofs.YtcphhbofjkenaaaGreatDoor
open Go Go.RowKit
set_option linter.unusedVariables false
set_option linter.unusedSimpArgs false
attribute [local go_sem] quietG
structure LSys (lo : Nat) (w : World) (bb : Nat) (ev cv : Value) (R : List PE × Int × Int × List Int) : Prop where
 sys : PSys w bb ev cv R.1 R.2.1 R.2.2.1 R.2.2.2
 inv : LInv R.1 R.2.1 R.2.2.1 R.2.2.2
 tab : Tab w
 bas : lo ≤ bb
 rows : ∀ k, ev.ownBlock = some k → lo ≤ k
 cods : ∀ k, cv.ownBlock = some k → lo ≤ k
theorem LSys.below {lo : Nat} {w w' : World} {bb : Nat} {ev cv : Value} {R : List PE × Int × Int × List Int} (h : LSys lo w bb ev cv R) (hb : Below w.heap.size w w') : LSys lo w' bb ev cv R :=
 ⟨h.sys.below hb, h.inv, h.tab.below hb, h.bas, h.rows, h.cods⟩
def touch (bb : Nat) (ev cv : Value) (k : Nat) : Prop := k = bb ∨ ev.ownBlock = some k ∨ cv.ownBlock = some k
theorem LSys.touch_lo {lo : Nat} {w : World} {bb : Nat} {ev cv : Value} {R : List PE × Int × Int × List Int} (h : LSys lo w bb ev cv R) {k : Nat} (hk : touch bb ev cv k) : lo ≤ k := by
 rcases hk with rfl | e | e
 ·exact h.bas
 ·exact h.rows k e
 ·exact h.cods k e
theorem LSys.load {lo : Nat} {w w' : World} {bb : Nat} {ev cv : Value} {R : List PE × Int × Int × List Int} {s : ByteArray} {e : Ending} (h : LSys lo w bb ev cv R) (hlo : lo ≤ w.heap.size) (hp : LoadPost w bb ev cv (loadR s R.1 R.2.1 R.2.2.1 R.2.2.2) e w') :
  e = .returned (.tuple #[.int .i64 (loadR s R.1 R.2.1 R.2.2.1 R.2.2.2).1.1, .int .i64 (loadR s R.1 R.2.1 R.2.2.1 R.2.2.2).1.2]) ∧ (∃ ev' cv', LSys lo w' bb ev' cv' (loadR s R.1 R.2.1 R.2.2.1 R.2.2.2).2 ∧ (∀ k, touch bb ev' cv' k → touch bb ev cv k ∨ w.heap.size ≤ k)) ∧ Chg (touch bb ev cv) w w' := by
 obtain ⟨h1, ⟨ev', cv', h2, h3, l1, l2⟩, h5, h6⟩ := hp
 refine ⟨h1, ⟨ev', cv', ⟨h2, h5, h3, h.bas, fun k hk => ?_, fun k hk => ?_⟩, fun k hk => ?_⟩, h6⟩
 ·rcases l1 k hk with e | e
  ·exact h.rows k e
  ·omega
 ·rcases l2 k hk with e | e
  ·exact h.cods k e
  ·omega
 ·rcases hk with rfl | e | e
  ·exact Or.inl (Or.inl rfl)
  ·exact (l1 k e).imp (fun e => Or.inr (Or.inl e)) id
  ·exact (l2 k e).imp (fun e => Or.inr (Or.inr e)) id
theorem LSys.chg {lo : Nat} {S : Nat → Prop} {w w' : World} {bb : Nat} {ev cv : Value} {R : List PE × Int × Int × List Int} (h : LSys lo w bb ev cv R) (hc : Chg S w w') (ht : Tab w') (hn : ∀ k, touch bb ev cv k → ¬ S k) : LSys lo w' bb ev cv R :=
 ⟨h.sys.chg hc (hn _ (Or.inl rfl)) (fun k hk => hn k (Or.inr (Or.inl hk))) (fun k hk => hn k (Or.inr (Or.inr hk))), h.inv, ht, h.bas, h.rows, h.cods⟩
theorem load_new2 {w w1 w2 : World} {bb : Nat} {s : ByteArray} {e : Ending} (h0 : w.heap.size ≤ bb) (hb : Below w.heap.size w w1) (hp : LoadPost w1 bb (.slice none 0 0) (.slice none 0 0) (loadR s [] 0 0 []) e w2) :
  e = .returned (.tuple #[.int .i64 (loadR s [] 0 0 []).1.1, .int .i64 (loadR s [] 0 0 []).1.2]) ∧ (∃ ev cv ws, LSys w.heap.size w2 bb ev cv (loadR s [] 0 0 []).2 ∧ Alk (loadR s [] 0 0 []).2.1 (loadR s [] 0 0 []).2.2.2.2 ws ∧ WsB ws) ∧ Below w.heap.size w w2 := by
 obtain ⟨h1, ⟨ev, cv, h2, h3, l1, l2⟩, h5, h6⟩ := hp
 obtain ⟨ws, a1, a2, _⟩ := load_ws s alk_nil LInv.zero wsOk_nil WsB.nil
 have hs := hb.size
 refine ⟨h1, ⟨ev, cv, ws, ⟨h2, h5, h3, h0, fun k hk => ?_, fun k hk => ?_⟩, a1, a2⟩, hb.trans (h6.toBelow hb.size fun b hbb e => ?_)⟩
 ·rcases l1 k hk with e | e
  ·simp [Value.ownBlock] at e
  ·omega
 ·rcases l2 k hk with e | e
  ·simp [Value.ownBlock] at e
  ·omega
 ·rcases e with e | e | e
  ·omega
  ·simp [Value.ownBlock] at e
  ·simp [Value.ownBlock] at e
def LoadedPost2 (w : World) (s : ByteArray) (e : Ending) (w' : World) : Prop := ∃ (bb : Nat) (ev cv : Value) (ws : List RW), e = .returned (.tuple #[.pointer (some ⟨bb, 0, none⟩), .bool ((loadR s [] 0 0 []).1.1 == 0)]) ∧ w.heap.size ≤ bb ∧ (LSys w.heap.size w' bb ev cv (loadR s [] 0 0 []).2 ∧ Alk (loadR s [] 0 0 []).2.1 (loadR s [] 0 0 []).2.2.2.2 ws ∧ WsB ws) ∧ Below w.heap.size w w'
set_option maxRecDepth 100000 in
set_option maxHeartbeats 4000000 in
theorem keep_loaded2 (w : World) (mb : Nat) {a : Option Addr} {nn c : Nat} {i : Int} {s : ByteArray} {k v : Int} {al : Bool} (hb : Blk w mb (mkC a nn c i s k v al) 34) (ht : Tab w) (hs : s.size ≤ 100000) :
  Calls Tryz.prog 15 #[.pointer (some ⟨mb, 0, none⟩)] w fun e w' => LoadedPost2 w s e w' := by
 have HT := hidden ht; have HB := hidden hb
 have HN := hidden (forth_new w ht)
 clear ht hb
 go_enter Tryz.func15, Tryz.ntmps15
 go_wp2_with fail
 refine HN.out.mono ?_
 rintro e w1 ⟨bb, hbb, rfl, hp, hb1⟩
 have HW := hidden (keep_works w1 (HT.out.below hb1))
 have HP := hidden hp; have HB1 := hidden hb1
 clear hp hb1 HN
 go_wp2_with fail
 refine HW.out.mono ?_
 rintro e w2 ⟨rfl, hb2⟩
 have hb12 := HB1.out.trans (hb2.mono HB1.out.size)
 have hbl := HB.out.sub hb12 HB.out.lt
 have c2 : w2.cell? ⟨mb, 2, none⟩ = some (.string s) := hbl.cell 2 _ rfl
 have hml := hbl.lt
 have HL := hidden (forth_load s (HP.out.below hb2) (HT.out.below hb12) (by omega) LInv.zero)
 have HB2 := hidden hb12
 clear hb2 hb12 hbl HW HP HB1
 go_wp2_with fail
 refine HL.out.mono ?_
 intro e w3 hpost
 obtain ⟨h1, ⟨ev, cv, ws, hK⟩, hb3⟩ := load_new2 hbb HB2.out hpost
 subst h1
 have HK := hidden hK; have HB3 := hidden hb3
 clear hpost hK hb3 HL HB2 c2
 obtain ⟨r1, hr1⟩ : ∃ r, r = (loadR s [] 0 0 []).1.1 := ⟨_, rfl⟩
 obtain ⟨r2, hr2⟩ : ∃ r, r = (loadR s [] 0 0 []).1.2 := ⟨_, rfl⟩
 rw [← hr1, ← hr2]
 have HR1 := hidden hr1
 clear hr1 hr2
 go_wp2_with fail
 exact bodyPost_ret (v := .tuple #[.pointer (some ⟨bb, 0, none⟩), .bool (r1 == 0)]) (by simp [results, Tryz.results15, go_sem]) rfl (show LoadedPost2 _ _ _ _ from ⟨bb, ev, cv, ws, by rw [HR1.out], hbb, HK.out, HB3.out⟩)
end Go.Proofs.YtcphhbofjkenaaaGreatDoor
