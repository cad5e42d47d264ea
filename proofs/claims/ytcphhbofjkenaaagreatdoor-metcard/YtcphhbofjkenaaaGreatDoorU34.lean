import Derived.Test.YtcphhbofjkenaaaGreatDoorU32
namespace Go.Proofs.YtcphhbofjkenaaaGreatDoor
open Go Go.RowKit
set_option linter.unusedVariables false
set_option linter.unusedSimpArgs false
section
variable {s : ByteArray}
end
def joinT (ts : List (List UInt8)) : List UInt8 := (ts.map (· ++ [32])).flatten
theorem joinT_append (a b : List (List UInt8)) : joinT (a ++ b) = joinT a ++ joinT b := by simp [joinT]
theorem joinT_cons (t : List UInt8) (b : List (List UInt8)) : joinT (t :: b) = t ++ 32 :: joinT b := by simp [joinT]
def tokB (t : List UInt8) : Bool := !t.isEmpty && t.all (fun b => !blk b.toNat) && !(t == [92])
def Sfx (s : ByteArray) (a : Nat) (ts : List (List UInt8)) : Prop := ∃ p z, (a = p ∨ (a + 1 = p ∧ byt s a = 32)) ∧ p ≤ s.size ∧ (z = [] ∨ z = [32]) ∧ s.data.toList.drop p ++ z = joinT ts
theorem byt_at_list (s : ByteArray) (i : Nat) (b : UInt8) (h : s.data.toList[i]? = some b) : byt s i = b.toNat ∧ i < s.size := by
 have hi : i < s.data.toList.length := (List.getElem?_eq_some_iff.1 h).1
 have hs : i < s.size := by simpa using hi
 refine ⟨?_, hs⟩
 rw [← byt_eq s i hs]
 have e := (List.getElem?_eq_some_iff.1 h).2
 simp only [Array.getElem_toList] at e
 rw [← e]; rfl
theorem nx_sfx {s : ByteArray} {a : Nat} {t : List UInt8} {ts : List (List UInt8)} (h : Sfx s a (t :: ts)) (ht : tokB t = true) : ∃ b e, nx s a = (⟨t.toArray⟩, b, e) ∧ Sfx s e ts := by
 obtain ⟨p, z, hp, hps, hz, hd⟩ := h
 rw [joinT_cons] at hd
 unfold tokB at ht
 simp only [Bool.and_eq_true, Bool.not_eq_true'] at ht
 obtain ⟨⟨t1, t2⟩, t3⟩ := ht
 have hne : 0 < t.length := by cases t <;> simp_all
 obtain ⟨D, hD⟩ : ∃ D, D = s.data.toList.drop p := ⟨_, rfl⟩
 rw [← hD] at hd
 have hDl : D.length = s.size - p := by rw [hD, List.length_drop]; rfl
 have hzl : z.length ≤ 1 := by rcases hz with rfl | rfl <;> simp
 have hlen : D.length + z.length = t.length + 1 + (joinT ts).length := by
  have := congrArg List.length hd
  simp at this
  omega
 have hg : ∀ j, j < D.length → (s.data.toList)[p + j]? = (t ++ 32 :: joinT ts)[j]? := fun j hj => by
  rw [← hd, List.getElem?_append_left hj, hD, List.getElem?_drop]
 have hin : ∀ j (hj : j < t.length), byt s (p + j) = t[j].toNat ∧ p + j < s.size := fun j hj => byt_at_list s _ _ (by rw [hg j (by omega), List.getElem?_append_left hj, List.getElem?_eq_getElem hj])
 have hbl : ∀ j (hj : j < t.length), blk (byt s (p + j)) = false := fun j hj => by
  rw [(hin j hj).1]
  have := List.all_eq_true.1 t2 t[j] (List.getElem_mem hj)
  simpa using this
 have hend : (t.length < D.length → byt s (p + t.length) = 32) ∧ p + t.length ≤ s.size := ⟨fun hl => (byt_at_list s _ 32 (by rw [hg _ hl, List.getElem?_append_right (Nat.le_refl _), Nat.sub_self]; rfl)).1, by omega⟩
 have hap : a ≤ p := by omega
 have eB : cutB s a = p := by
  refine scan_eq hap hps (fun x a1 a2 => ?_) (Or.inr ?_)
  ·obtain rfl : x = a := by omega
   have : byt s x = 32 := by rcases hp with h | h <;> omega
   rw [this]; rfl
  ·unfold ink
   have := hbl 0 hne
   rw [Nat.add_zero] at this
   rw [this]; rfl
 have eE : cutE s a = p + t.length := by
  unfold cutE
  rw [show scan ink s a = p from eB]
  refine scan_eq (by omega) hend.2 (fun x a1 a2 => ?_) ?_
  ·have := hbl (x - p) (by omega)
   rw [show p + (x - p) = x by omega] at this
   exact this
  ·rcases Nat.lt_or_ge t.length D.length with hl | hl
   ·exact Or.inr (by rw [hend.1 hl]; rfl)
   ·exact Or.inl (by omega)
 have hx : s.extract p (p + t.length) = ⟨t.toArray⟩ := by
  apply ByteArray.ext
  apply Array.ext'
  rw [ByteArray.data_extract, Array.toList_extract]
  show List.extract s.data.toList p (p + t.length) = t
  rw [List.extract_eq_take_drop, ← hD, Nat.add_sub_cancel_left]
  have := congrArg (List.take t.length) hd
  rw [List.take_append_of_le_length (by omega), List.take_left] at this
  exact this
 have hn : ((s.extract (cutB s a) (cutE s a)).toList == [92]) = false := by
  rw [eB, eE, hx, ba_list]; exact t3
 refine ⟨p, p + t.length, ?_, ?_⟩
 ·show nextF _ _ _ = _
  cases hf : s.size - a with
  | zero => rw [nextF, eB, eE, hx]
  | succ f => rw [nextF, if_neg (by rw [hn]; exact Bool.false_ne_true), eB, eE, hx]
 ·rcases Nat.lt_or_ge t.length D.length with hl | hl
  ·refine ⟨p + t.length + 1, z, Or.inr ⟨rfl, hend.1 hl⟩, by omega, hz, ?_⟩
   have e1 : s.data.toList.drop (p + t.length + 1) = D.drop (t.length + 1) := by rw [hD, List.drop_drop]; rfl
   have := congrArg (List.drop (t.length + 1)) hd
   rw [List.drop_append_of_le_length (by omega)] at this
   rw [e1, this]
   simp [List.drop_append]
  ·have hj : joinT ts = [] := List.length_eq_zero_iff.1 (by omega)
   refine ⟨p + t.length, [], Or.inl rfl, hend.2, Or.inl rfl, ?_⟩
   rw [hj, List.append_nil]
   exact List.drop_eq_nil_of_le (by show s.size ≤ _; omega)
theorem nx_nil {s : ByteArray} {a : Nat} (h : Sfx s a []) : ((nx s a).1.toList == []) = true := by
 obtain ⟨p, z, hp, hps, hz, hd⟩ := h
 have hz : p = s.size := by
  have := congrArg List.length hd
  simp [joinT] at this
  have e : s.data.size = s.size := rfl
  omega
 have eB : cutB s a = s.size := by
  refine scan_eq (by omega) (Nat.le_refl _) (fun x a1 a2 => ?_) (Or.inl rfl)
  obtain rfl : x = a := by omega
  have : byt s x = 32 := by rcases hp with h | h <;> omega
  rw [this]; rfl
 have eE : cutE s a = s.size := by
  unfold cutE
  rw [show scan ink s a = s.size from eB]
  exact scan_eq (Nat.le_refl _) (Nat.le_refl _) (fun x a1 a2 => by omega) (Or.inl rfl)
 have hx : s.extract s.size s.size = ⟨#[]⟩ := ByteArray.size_eq_zero_iff.1 (by simp)
 have hl : (⟨#[]⟩ : ByteArray).toList = [] := ba_list []
 have : nx s a = (⟨#[]⟩, s.size, s.size) := by
  show nextF _ _ _ = _
  cases hf : s.size - a with
  | zero => rw [nextF, eB, eE, hx]
  | succ f => rw [nextF, eB, eE, hx, if_neg (by rw [hl]; decide)]
 rw [this]
 simp only
 rw [hl]; rfl
theorem def_tok {es : List PE} {nt : Int} {s : ByteArray} {f : Nat} {tk : Int} {dc : List Int} {b : PB} {r : List PB} {kn : Inf} {a : Nat} {X : List Int × Inf × Int × Nat} {t : List UInt8} {ts : List (List UInt8)} (h : defP es nt s f tk dc (b :: r) kn a = .inl X) (hs : Sfx s a (t :: ts)) (ht : tokB t = true) :
  ∃ f' e, (stepP es nt (tk + 1) dc (b :: r) kn ⟨t.toArray⟩).1 = 0 ∧ defP es nt s f' (tk + 1) (stepP es nt (tk + 1) dc (b :: r) kn ⟨t.toArray⟩).2.1 (stepP es nt (tk + 1) dc (b :: r) kn ⟨t.toArray⟩).2.2.1 (stepP es nt (tk + 1) dc (b :: r) kn ⟨t.toArray⟩).2.2.2 e = .inl X ∧ Sfx s e ts := by
 obtain ⟨b0, e, h1, h2⟩ := nx_sfx hs ht
 cases f with
 | zero => rw [defP] at h; cases h
 | succ f =>
  rw [defP, h1] at h
  simp only at h
  split at h
  ·rename_i h0
   exact ⟨f, e, h0, h, h2⟩
  ·cases h
structure Eff (i : Inf) : Prop where
 n0 : 0 ≤ i.need
 n1 : i.need ≤ 1
 t : i.net = 0
 h0 : 0 ≤ i.high
 h1 : i.high ≤ 3
structure TEff (i : Inf) : Prop where
 n : i.need = 0
 h0 : 0 ≤ i.high
 h1 : i.high ≤ 4
def EOk (x : PE) : Prop := (x.var = true ∧ ∃ d, x.name.toList = [118, d]) ∨ (x.var = false ∧ (∃ d, x.name.toList = [119, d]) ∧ Eff x.inf) ∨ (x.var = false ∧ (∃ d, x.name.toList = [116, d]) ∧ TEff x.inf)
def EsOk (es : List PE) : Prop := ∀ x ∈ es, EOk x
theorem last_in {es : List PE} {s : ByteArray} {x : PE} : ∀ {n : Nat}, n ≤ es.length → lastP es s n = some x → x ∈ es ∧ x.name.toList = s.toList
 | 0, _, h => by cases h
 | n + 1, hn, h => by
  unfold lastP at h
  split at h
  ·rename_i hx
   obtain rfl := Option.some.inj h
   have hl : n < es.length := by omega
   rw [List.getD_eq_getElem?_getD, List.getElem?_eq_getElem hl] at hx ⊢
   exact ⟨List.getElem_mem hl, by simpa using hx⟩
  ·exact last_in (by omega) h
def notOwn (l : List UInt8) : Bool := match l with | [c, _] => c != 118 && c != 119 && c != 116 | _ => true
theorem last_no {es : List PE} (he : EsOk es) {s : ByteArray} (h : notOwn s.toList = true) : lastP es s es.length = none := by
 cases hl : lastP es s es.length with
 | none => rfl
 | some x =>
  exfalso
  obtain ⟨h1, h2⟩ := last_in (Nat.le_refl _) hl
  rw [← h2] at h
  rcases he x h1 with ⟨_, d, e⟩ | ⟨_, ⟨d, e⟩, _⟩ | ⟨_, ⟨d, e⟩, _⟩ <;> (rw [e] at h; simp [notOwn] at h)
theorem last_own {es : List PE} (he : EsOk es) {s : ByteArray} {d : UInt8} (hs : s.toList = [119, d]) {x : PE} (h : lastP es s es.length = some x) : x.var = false ∧ Eff x.inf := by
 obtain ⟨h1, h2⟩ := last_in (Nat.le_refl _) h
 rw [hs] at h2
 rcases he x h1 with ⟨_, d', e⟩ | ⟨hv, _, hf⟩ | ⟨_, ⟨d', e⟩, _⟩
 ·rw [h2] at e; simp at e
 ·exact ⟨hv, hf⟩
 ·rw [h2] at e; simp at e
theorem last_task {es : List PE} (he : EsOk es) {s : ByteArray} {d : UInt8} (hs : s.toList = [116, d]) {x : PE} (h : lastP es s es.length = some x) : x.var = false ∧ TEff x.inf := by
 obtain ⟨h1, h2⟩ := last_in (Nat.le_refl _) h
 rw [hs] at h2
 rcases he x h1 with ⟨_, d', e⟩ | ⟨_, ⟨d', e⟩, _⟩ | ⟨hv, _, hf⟩
 ·rw [h2] at e; simp at e
 ·rw [h2] at e; simp at e
 ·exact ⟨hv, hf⟩
def free (l : List UInt8) : Bool := !(l == []) && !(l == [58]) && !(l == [118, 97, 114, 105, 97, 98, 108, 101]) && !(l == [59]) && !(l == [105, 102]) && !(l == [101, 108, 115, 101]) && !(l == [116, 104, 101, 110]) && !(l == [100, 111]) && !(l == [108, 111, 111, 112])
theorem step_free {es : List PE} {nt tk : Int} {dc : List Int} {b : PB} {r : List PB} {kn : Inf} {s : ByteArray} (h : free s.toList = true) : stepP es nt tk dc (b :: r) kn s = if (numP s).2 = true then (0, dc ++ [28, (numP s).1], { b.add (opInf 28) with numbers := min (b.numbers + 1) 2, a0 := b.a1, a1 := (numP s).1 } :: r, kn) else stepW es dc b r kn s := by
 unfold free at h
 simp only [Bool.and_eq_true, Bool.not_eq_true'] at h
 obtain ⟨⟨⟨⟨⟨⟨⟨⟨h1, h2⟩, h3⟩, h4⟩, h5⟩, h6⟩, h7⟩, h8⟩, h9⟩ := h
 unfold stepP
 simp only [h1, h2, h3, h4, h5, h6, h7, h8, h9, Bool.false_eq_true, if_false]
structure Bt (b b' : PB) (i : Inf) : Prop where
 d : b'.does = b.does.then i
 o : b'.opener = b.opener
 u : b'.other = b.other
def plainE (t : ByteArray) : Option Inf := if free t.toList && notOwn t.toList then (if (numP t).2 = true then some (opInf 28) else match opFind t with | some k => some (opInf k) | none => none) else none
theorem step_plain {es : List PE} (he : EsOk es) {nt tk : Int} {dc : List Int} {b : PB} {r : List PB} {kn : Inf} {t : ByteArray} {i : Inf} (h : plainE t = some i) (h0 : (stepP es nt tk dc (b :: r) kn t).1 = 0) : ∃ b', (stepP es nt tk dc (b :: r) kn t).2.2.1 = b' :: r ∧ (stepP es nt tk dc (b :: r) kn t).2.2.2 = kn ∧ Bt b b' i := by
 unfold plainE at h
 split at h
 ·rename_i hf
  rw [Bool.and_eq_true] at hf
  rw [step_free hf.1] at h0 ⊢
  split at h
  ·rename_i hn
   obtain rfl := Option.some.inj h
   rw [if_pos hn]
   exact ⟨_, rfl, rfl, rfl, rfl, rfl⟩
  ·rename_i hn
   rw [if_neg hn] at h0 ⊢
   unfold stepW at h0 ⊢
   rw [last_no he hf.2] at h0 ⊢
   simp only at h0 ⊢
   cases hk : opFind t with
   | none => rw [hk] at h; cases h
   | some k =>
    rw [hk] at h h0
    obtain rfl := Option.some.inj h
    simp only at h0 ⊢
    split at h0
    ·simp at h0
    ·rename_i hc
     rw [if_neg hc]
     exact ⟨_, rfl, rfl, rfl, rfl, rfl⟩
 ·cases h
abbrev F3 := Int × Int × Int
def then3 (a : F3) (i : Inf) : F3 := (max a.1 (i.need - a.2.1), a.2.1 + i.net, max a.2.2 (a.2.1 + i.high))
def f3 (i : Inf) : F3 := (i.need, i.net, i.high)
theorem f3_then (a i : Inf) : f3 (a.then i) = then3 (f3 a) i := rfl
theorem f3_fold : ∀ (l : List Inf) (a : Inf), f3 (l.foldl Inf.then a) = l.foldl then3 (f3 a)
 | [], _ => rfl
 | i :: l, a => by rw [List.foldl_cons, List.foldl_cons, f3_fold l, f3_then]
theorem fold3 : ∀ (l : List Inf) (a b : F3), 0 ≤ a.1 → 0 ≤ a.2.2 → 0 ≤ b.1 → 0 ≤ b.2.2 → l.foldl then3 (max a.1 (b.1 - a.2.1), a.2.1 + b.2.1, max a.2.2 (a.2.1 + b.2.2)) = (max a.1 ((l.foldl then3 b).1 - a.2.1), a.2.1 + (l.foldl then3 b).2.1, max a.2.2 (a.2.1 + (l.foldl then3 b).2.2))
 | [], a, b, _, _, _, _ => rfl
 | i :: l, a, b, h1, h2, h3, h4 => by
  rw [List.foldl_cons, List.foldl_cons]
  have e : then3 (max a.1 (b.1 - a.2.1), a.2.1 + b.2.1, max a.2.2 (a.2.1 + b.2.2)) i = (max a.1 ((then3 b i).1 - a.2.1), a.2.1 + (then3 b i).2.1, max a.2.2 (a.2.1 + (then3 b i).2.2)) := by
   simp only [then3, Prod.mk.injEq]
   refine ⟨?_, ?_, ?_⟩ <;> omega
  rw [e]
  exact fold3 l a (then3 b i) h1 h2 (by simp only [then3]; omega) (by simp only [then3]; omega)
def effL (l : List Inf) : Bool := decide ((l.foldl then3 (0, 0, 0)).1 ≤ 1) && decide ((l.foldl then3 (0, 0, 0)).2.1 = 0) && decide ((l.foldl then3 (0, 0, 0)).2.2 ≤ 3)
theorem eff_fold {l : List Inf} {a : Inf} (h : effL l = true) (ha : Eff a) : Eff (l.foldl Inf.then a) := by
 unfold effL at h
 simp only [Bool.and_eq_true, decide_eq_true_eq] at h
 obtain ⟨⟨h1, h2⟩, h3⟩ := h
 have e := fold3 l (f3 a) (0, 0, 0) ha.n0 ha.h0 (Int.le_refl _) (Int.le_refl _)
 have hz : ((max (f3 a).1 ((0 : Int) - (f3 a).2.1), (f3 a).2.1 + 0, max (f3 a).2.2 ((f3 a).2.1 + 0)) : F3) = f3 a := by
  have := ha.n0
  have := ha.t
  have := ha.h0
  simp only [f3]
  refine Prod.ext ?_ (Prod.ext ?_ ?_) <;> simp only <;> omega
 rw [hz, ← f3_fold] at e
 have e1 := congrArg Prod.fst e
 have e2 := congrArg (fun x => x.2.1) e
 have e3 := congrArg (fun x => x.2.2) e
 simp only [f3] at e1 e2 e3
 have := ha.n0
 have := ha.n1
 have := ha.t
 have := ha.h0
 have := ha.h1
 exact ⟨by omega, by omega, by omega, by omega, by omega⟩
theorem eff_zero : Eff Inf.zero := ⟨by decide, by decide, rfl, by decide, by decide⟩
def infT (ts : List (List UInt8)) : List Inf := ts.filterMap fun t => plainE ⟨t.toArray⟩
def quietT (al : Bool) (t : List UInt8) : Bool := !al || (!(t == [64]) && !(t == [33]) && !(t == [105, 110]))
def plainG (al : Bool) (ts : List (List UInt8)) : Bool := ts.all (fun t => tokB t && (plainE ⟨t.toArray⟩).isSome && quietT al t)
def rng (d : UInt8) : Prop := 48 ≤ d.toNat ∧ d.toNat ≤ 57
inductive GT (al : Bool) : St → List (List UInt8) → St → Prop
 | var (d : UInt8) (h : rng d) : GT al .out [[118, 97, 114, 105, 97, 98, 108, 101], [118, d]] .out
 | colon (d : UInt8) (h : rng d) : GT al .out [[58], [119, d]] (.inn [])
 | plain {fs : List Nat} (ts : List (List UInt8)) (h : plainG al ts = true) (he : effL (infT ts) = true) : GT al (.inn fs) ts (.inn fs)
 | word {fs : List Nat} (d : UInt8) (h : rng d) : GT al (.inn fs) [[119, d]] (.inn fs)
 | iff {fs : List Nat} : GT al (.inn fs) [[100, 117, 112], [51], [62], [105, 102]] (.inn (0 :: fs))
 | els {fs : List Nat} : GT al (.inn (0 :: fs)) [[101, 108, 115, 101]] (.inn (1 :: fs))
 | thn0 {fs : List Nat} : GT al (.inn (0 :: fs)) [[116, 104, 101, 110]] (.inn fs)
 | thn1 {fs : List Nat} : GT al (.inn (1 :: fs)) [[116, 104, 101, 110]] (.inn fs)
 | doo {fs : List Nat} (d e : UInt8) (h : rng d) (h2 : rng e) : GT al (.inn fs) [[d], [e], [100, 111]] (.inn (2 :: fs))
 | loop {fs : List Nat} : GT al (.inn (2 :: fs)) [[105], [43], [108, 111, 111, 112]] (.inn fs)
 | semi : GT al (.inn []) [[59]] .out
def split32 : List UInt8 → List UInt8 → List (List UInt8)
 | cur, [] => [cur]
 | cur, b :: r => if b = 32 then cur :: split32 [] r else split32 (cur ++ [b]) r
theorem evens_ok : ∀ al, (evens.all fun t => plainG al (split32 [] t.data.toList) && effL (infT (split32 [] t.data.toList)) && (joinT (split32 [] t.data.toList) == t.data.toList ++ [32])) = true := by decide +kernel
theorem others_ok : (others.all fun t => plainG false (split32 [] t.data.toList) && effL (infT (split32 [] t.data.toList)) && (joinT (split32 [] t.data.toList) == t.data.toList ++ [32])) = true := by decide +kernel
theorem Gstep.toks {al : Bool} {st st' : St} {g : List UInt8} (h : Gstep al st g st') : ∃ ts, GT al st ts st' ∧ joinT ts = g ++ [32] := by
 cases h with
 | var d h => exact ⟨_, .var d h, rfl⟩
 | colon d h => exact ⟨_, .colon d h, rfl⟩
 | even h =>
  have := List.all_eq_true.1 (evens_ok al) _ h
  simp only [Bool.and_eq_true, beq_iff_eq] at this
  exact ⟨_, .plain _ this.1.1 this.1.2, this.2⟩
 | other ha h =>
  subst ha
  have := List.all_eq_true.1 others_ok _ h
  simp only [Bool.and_eq_true, beq_iff_eq] at this
  exact ⟨_, .plain _ this.1.1 this.1.2, this.2⟩
 | word d h => exact ⟨_, .word d h, rfl⟩
 | iff => exact ⟨_, .iff, rfl⟩
 | els => exact ⟨_, .els, rfl⟩
 | thn0 => exact ⟨_, .thn0, rfl⟩
 | thn1 => exact ⟨_, .thn1, rfl⟩
 | doo d e h h2 => exact ⟨_, .doo d e h h2, rfl⟩
 | loop => exact ⟨_, .loop, rfl⟩
 | semi => exact ⟨_, .semi, rfl⟩
inductive Fwd (al : Bool) : St → List (List (List UInt8)) → Prop
 | nil : Fwd al .out []
 | cons {st st' : St} {ts : List (List UInt8)} {L : List (List (List UInt8))} (h : GT al st ts st') (hl : Fwd al st' L) : Fwd al st (ts :: L)
theorem Tx.fwd {al : Bool} {st : St} {gs : List (List UInt8)} (h : Tx al st gs) : ∀ L, Fwd al st L → ∃ L', Fwd al .out L' ∧ joinT L'.flatten = (gs.map (· ++ [32])).flatten ++ joinT L.flatten := by
 induction h with
 | nil => exact fun L hL => ⟨L, hL, by simp⟩
 | snoc h hg ih =>
  intro L hL
  obtain ⟨ts, h1, h2⟩ := hg.toks
  obtain ⟨L', h3, h4⟩ := ih _ (.cons h1 hL)
  refine ⟨L', h3, ?_⟩
  rw [h4, List.flatten_cons, joinT_append, h2]
  simp
theorem TextG.fwd {al : Bool} {s : ByteArray} (h : TextG al .out s) : ∃ L, Fwd al .out L ∧ Sfx s 0 L.flatten := by
 obtain ⟨_, gs, h1, h2⟩ := h
 obtain ⟨L, h3, h4⟩ := h1.fwd [] .nil
 exact ⟨L, h3, 0, [], Or.inl rfl, Nat.zero_le _, Or.inl rfl, by rw [List.drop_zero, h2, h4]; simp [joinT]⟩
section
variable {es : List PE} {nt : Int} {s : ByteArray} {f : Nat} {tk : Int} {dc : List Int} {b : PB} {r : List PB} {kn : Inf} {a : Nat} {X : List Int × Inf × Int × Nat}
theorem read_plain {al : Bool} (he : EsOk es) {rest : List (List UInt8)} : ∀ (ts : List (List UInt8)), plainG al ts = true → ∀ (f : Nat) (tk : Int) (dc : List Int) (b : PB) (a : Nat), defP es nt s f tk dc (b :: r) kn a = .inl X → Sfx s a (ts ++ rest) → ∃ f' tk' dc' b' e, defP es nt s f' tk' dc' (b' :: r) kn e = .inl X ∧ Sfx s e rest ∧ b'.does = (infT ts).foldl Inf.then b.does ∧ b'.opener = b.opener ∧ b'.other = b.other
 | [], _, f, tk, dc, b, a, h, hs => ⟨f, tk, dc, b, a, h, hs, rfl, rfl, rfl⟩
 | t :: ts, hp, f, tk, dc, b, a, h, hs => by
  unfold plainG at hp
  rw [List.all_cons, Bool.and_eq_true, Bool.and_eq_true, Bool.and_eq_true] at hp
  obtain ⟨⟨⟨p1, p2⟩, p3⟩, p4⟩ := hp
  obtain ⟨i, hi⟩ := Option.isSome_iff_exists.1 p2
  obtain ⟨f1, e1, h0, h1, h2⟩ := def_tok h hs p1
  obtain ⟨b1, k1, k2, k3⟩ := step_plain he hi h0
  rw [k1, k2] at h1
  obtain ⟨f', tk', dc', b', e, q1, q2, q3, q4, q5⟩ := read_plain he ts p4 f1 _ _ b1 e1 h1 h2
  refine ⟨f', tk', dc', b', e, q1, q2, ?_, q4.trans k3.o, q5.trans k3.u⟩
  rw [q3, k3.d]
  unfold infT
  rw [List.filterMap_cons, hi]
  rfl
def InvB : List Nat → List PB → Prop
 | [], [b] => b.opener = 34 ∧ Eff b.does
 | 0 :: fs, b :: r => b.opener = 29 ∧ Eff b.does ∧ b.other = Inf.zero ∧ InvB fs r
 | 1 :: fs, b :: r => b.opener = 30 ∧ Eff b.does ∧ Eff b.other ∧ InvB fs r
 | 2 :: fs, b :: r => b.opener = 31 ∧ Eff b.does ∧ InvB fs r
 | _, _ => False
theorem invB_n {b : PB} (h1 : b.opener = 34) (h2 : Eff b.does) : InvB [] [b] := ⟨h1, h2⟩
theorem invB_0 {fs : List Nat} {b : PB} {r : List PB} (h1 : b.opener = 29) (h2 : Eff b.does) (h3 : b.other = Inf.zero) (h4 : InvB fs r) : InvB (0 :: fs) (b :: r) := ⟨h1, h2, h3, h4⟩
theorem invB_1 {fs : List Nat} {b : PB} {r : List PB} (h1 : b.opener = 30) (h2 : Eff b.does) (h3 : Eff b.other) (h4 : InvB fs r) : InvB (1 :: fs) (b :: r) := ⟨h1, h2, h3, h4⟩
theorem invB_2 {fs : List Nat} {b : PB} {r : List PB} (h1 : b.opener = 31) (h2 : Eff b.does) (h4 : InvB fs r) : InvB (2 :: fs) (b :: r) := ⟨h1, h2, h4⟩
theorem InvB.top : ∀ {fs : List Nat} {bl : List PB}, InvB fs bl → ∃ b r, bl = b :: r ∧ Eff b.does ∧ ∀ b', b'.opener = b.opener → b'.other = b.other → Eff b'.does → InvB fs (b' :: r)
 | [], [b], h => ⟨b, [], rfl, h.2, fun b' h1 _ h3 => ⟨h1.trans h.1, h3⟩⟩
 | 0 :: fs, b :: r, h => ⟨b, r, rfl, h.2.1, fun b' h1 h2 h3 => ⟨h1.trans h.1, h3, h2.trans h.2.2.1, h.2.2.2⟩⟩
 | 1 :: fs, b :: r, h => ⟨b, r, rfl, h.2.1, fun b' h1 h2 h3 => ⟨h1.trans h.1, h3, by rw [h2]; exact h.2.2.1, h.2.2.2⟩⟩
 | 2 :: fs, b :: r, h => ⟨b, r, rfl, h.2.1, fun b' h1 h2 h3 => ⟨h1.trans h.1, h3, h.2.2⟩⟩
 | [], [], h => h.elim
 | [], _ :: _ :: _, h => h.elim
 | _ :: _, [], h => by rename_i x y; cases x with | zero => exact h.elim | succ x => cases x with | zero => exact h.elim | succ x => cases x with | zero => exact h.elim | succ x => exact h.elim
 | (n + 3) :: fs, b :: r, h => h.elim
end
section
variable {es : List PE} {nt tk : Int} {dc : List Int} {b c : PB} {r : List PB} {kn : Inf}
theorem stp_if : stepP es nt tk dc (b :: r) kn ⟨#[105, 102]⟩ = (0, dc ++ [29, 0], PB.opened { PB.zero with opener := 29 } (b.add (opInf 29)) (dc.length + 2) :: b.add (opInf 29) :: r, kn) := by
 unfold stepP
 simp only
 rw [if_neg (by decide +kernel), if_neg (by decide +kernel), if_neg (by decide +kernel), if_neg (by decide +kernel), if_pos (by decide +kernel)]
theorem stp_else (h : b.opener = 29) : stepP es nt tk dc (b :: c :: r) kn ⟨#[101, 108, 115, 101]⟩ = (0, (dc ++ [30, 0]).set b.hole.toNat (dc.length + 2), PB.opened { PB.zero with opener := 30, other := b.does.then (opInf 30) } c (dc.length + 2) :: c :: r, kn) := by
 unfold stepP
 simp only
 rw [if_neg (by decide +kernel), if_neg (by decide +kernel), if_neg (by decide +kernel), if_neg (by decide +kernel), if_neg (by decide +kernel), if_pos (by decide +kernel), if_pos h]
theorem stp_then (h : b.opener = 29 ∨ b.opener = 30) (hn : b.does.net = b.other.net) : stepP es nt tk dc (b :: c :: r) kn ⟨#[116, 104, 101, 110]⟩ = (0, dc.set b.hole.toNat dc.length, c.add (b.does.orP b.other) :: r, kn) := by
 unfold stepP
 simp only
 rw [if_neg (by decide +kernel), if_neg (by decide +kernel), if_neg (by decide +kernel), if_neg (by decide +kernel), if_neg (by decide +kernel), if_neg (by decide +kernel), if_pos (by decide +kernel), if_pos h, if_pos hn]
theorem stp_do (h : (stepP es nt tk dc (b :: r) kn ⟨#[100, 111]⟩).1 = 0) : stepP es nt tk dc (b :: r) kn ⟨#[100, 111]⟩ = (0, dc ++ [31, 0], PB.opened { PB.zero with opener := 31, times := max 0 (b.a0 - b.a1) } (b.add (opInf 31)) (dc.length + 2) :: b.add (opInf 31) :: r, kn) := by
 unfold stepP at h ⊢
 simp only at h ⊢
 rw [if_neg (by decide +kernel), if_neg (by decide +kernel), if_neg (by decide +kernel), if_neg (by decide +kernel), if_neg (by decide +kernel), if_neg (by decide +kernel), if_neg (by decide +kernel), if_pos (by decide +kernel)] at h ⊢
 split at h
 ·simp at h
 ·rename_i h1
  split at h
  ·simp at h
  ·rename_i h2
   rw [if_neg h1, if_neg h2]
theorem stp_loop (h : b.opener = 31) (hn : b.does.net = 0) : stepP es nt tk dc (b :: c :: r) kn ⟨#[108, 111, 111, 112]⟩ = (0, (dc ++ [32, (b.hole.toNat : Int) + 1]).set b.hole.toNat (dc.length + 2), c.add ((b.does.then (opInf 32)).timesP b.times) :: r, kn) := by
 unfold stepP
 simp only
 rw [if_neg (by decide +kernel), if_neg (by decide +kernel), if_neg (by decide +kernel), if_neg (by decide +kernel), if_neg (by decide +kernel), if_neg (by decide +kernel), if_neg (by decide +kernel), if_neg (by decide +kernel), if_pos (by decide +kernel), if_pos h, if_pos hn]
theorem stp_semi (h : b.opener = 34) : stepP es nt tk dc (b :: r) kn ⟨#[59]⟩ = (endErr (b.does.then (opInf 34)).steps nt tk, dc ++ [34], [], b.does.then (opInf 34)) := by
 unfold stepP
 simp only
 rw [if_neg (by decide +kernel), if_neg (by decide +kernel), if_neg (by decide +kernel), if_pos (by decide +kernel), if_pos h]
theorem stp_own (he : EsOk es) {t : ByteArray} {d : UInt8} (ht : t.toList = [119, d]) (hn : (numP t).2 = false) (ho : opFind t = none) (h : (stepP es nt tk dc (b :: r) kn t).1 = 0) : ∃ y : PE, y.var = false ∧ Eff y.inf ∧ stepP es nt tk dc (b :: r) kn t = (0, dc ++ [y.op, y.place], b.add y.use :: r, kn) := by
 have hf : free t.toList = true := by
  rw [ht]
  unfold free
  simp
 rw [step_free hf, if_neg (by rw [hn]; decide)] at h ⊢
 unfold stepW at h ⊢
 cases hl : lastP es t es.length with
 | none => rw [hl, ho] at h; simp at h
 | some y =>
  obtain ⟨e1, e2⟩ := last_own he ht hl
  exact ⟨y, e1, e2, rfl⟩
end
theorem effq_then {a i : Inf} (ha : Eff a) (hi : Eff i) : Eff (a.then i) := by
 have := ha.n0; have := ha.n1; have := ha.t; have := ha.h0; have := ha.h1
 have := hi.n0; have := hi.n1; have := hi.t; have := hi.h0; have := hi.h1
 exact ⟨by simp only [Inf.then]; omega, by simp only [Inf.then]; omega, by simp only [Inf.then]; omega, by simp only [Inf.then]; omega, by simp only [Inf.then]; omega⟩
theorem effq_or {a i : Inf} (ha : Eff a) (hi : Eff i) : Eff (a.orP i) := by
 have := ha.n0; have := ha.n1; have := ha.t; have := ha.h0; have := ha.h1
 have := hi.n0; have := hi.n1; have := hi.t; have := hi.h0; have := hi.h1
 unfold Inf.orP
 exact ⟨by simp only; omega, by simp only; omega, by simp only; omega, by simp only; omega, by simp only; omega⟩
theorem effq_times {a : Inf} {n : Int} (ha : Eff a) : Eff (a.timesP n) := by
 unfold Inf.timesP
 split
 ·exact ⟨Int.le_refl _, (show (0 : Int) ≤ 1 by decide), rfl, Int.le_refl _, (show (0 : Int) ≤ 3 by decide)⟩
 ·exact ⟨ha.n0, ha.n1, ha.t, ha.h0, ha.h1⟩
theorem eff_op : ∀ k, k = 30 ∨ k = 32 ∨ k = 33 ∨ k = 34 → Eff (opInf k) := by
 rintro k (rfl | rfl | rfl | rfl) <;> exact ⟨by decide +kernel, by decide +kernel, by decide +kernel, by decide +kernel, by decide +kernel⟩
theorem digit_plain : ∀ d : UInt8, rng d → plainE ⟨[d].toArray⟩ = some (opInf 28) ∧ tokB [d] = true := by
 have h : ∀ k : Nat, k < 10 → (plainE ⟨[UInt8.ofNat (48 + k)].toArray⟩).isSome = true ∧ (numP ⟨[UInt8.ofNat (48 + k)].toArray⟩).2 = true ∧ (free [UInt8.ofNat (48 + k)] && notOwn [UInt8.ofNat (48 + k)]) = true ∧ tokB [UInt8.ofNat (48 + k)] = true := by decide +kernel
 intro d hd
 obtain ⟨h1, h2⟩ := hd
 obtain ⟨k, hk, e⟩ : ∃ k : Nat, k < 10 ∧ d = UInt8.ofNat (48 + k) := ⟨d.toNat - 48, by omega, by rw [show 48 + (d.toNat - 48) = d.toNat by omega]; simp⟩
 rw [e]
 obtain ⟨_, a2, a3, a4⟩ := h k hk
 refine ⟨?_, a4⟩
 unfold plainE
 rw [ba_list, if_pos a3, if_pos a2]
theorem name_plain : ∀ d : UInt8, rng d → ∀ x : UInt8, (x = 119 ∨ x = 116 ∨ x = 118) → (numP ⟨[x, d].toArray⟩).2 = false ∧ opFind ⟨[x, d].toArray⟩ = none ∧ tokB [x, d] = true := by
 have h : ∀ k : Nat, k < 10 → ∀ x : UInt8, x ∈ [(119 : UInt8), 116, 118] → (numP ⟨[x, UInt8.ofNat (48 + k)].toArray⟩).2 = false ∧ opFind ⟨[x, UInt8.ofNat (48 + k)].toArray⟩ = none ∧ tokB [x, UInt8.ofNat (48 + k)] = true := by decide +kernel
 intro d hd x hx
 obtain ⟨h1, h2⟩ := hd
 obtain ⟨k, hk, e⟩ : ∃ k : Nat, k < 10 ∧ d = UInt8.ofNat (48 + k) := ⟨d.toNat - 48, by omega, by rw [show 48 + (d.toNat - 48) = d.toNat by omega]; simp⟩
 rw [e]
 exact h k hk x (by simpa using hx)
section
variable {es : List PE} {nt : Int} {s : ByteArray}
theorem read_body {al : Bool} (he : EsOk es) {X : List Int × Inf × Int × Nat} : ∀ (L : List (List (List UInt8))) (fs : List Nat) (f : Nat) (tk : Int) (dc : List Int) (bl : List PB) (kn : Inf) (a : Nat), Fwd al (.inn fs) L → InvB fs bl → Sfx s a L.flatten → defP es nt s f tk dc bl kn a = .inl X → Eff X.2.1 ∧ ∃ L', Fwd al .out L' ∧ Sfx s X.2.2.2 L'.flatten ∧ L'.length < L.length := by
 intro L
 induction L with
 | nil => intro fs f tk dc bl kn a h; cases h
 | cons ts L ih =>
  intro fs f tk dc bl kn a hF hI hS hD
  have fin : ∀ (fs : List Nat) (f : Nat) (tk : Int) (dc : List Int) (bl : List PB) (kn : Inf) (a : Nat), Fwd al (.inn fs) L → InvB fs bl → Sfx s a L.flatten → defP es nt s f tk dc bl kn a = .inl X → Eff X.2.1 ∧ ∃ L', Fwd al .out L' ∧ Sfx s X.2.2.2 L'.flatten ∧ L'.length < (ts :: L).length := fun fs f tk dc bl kn a h1 h2 h3 h4 => by
   obtain ⟨q1, L', q2, q3, q4⟩ := ih fs f tk dc bl kn a h1 h2 h3 h4
   exact ⟨q1, L', q2, q3, by simp; omega⟩
  rw [List.flatten_cons] at hS
  cases hF with
  | cons hg hL =>
   cases hg with
   | plain ts hp he' =>
    obtain ⟨b, r, rfl, hb, hnew⟩ := hI.top
    obtain ⟨f', tk', dc', b', e, q1, q2, q3, q4, q5⟩ := read_plain he ts hp f tk dc b a hD hS
    exact fin fs f' tk' dc' _ kn e hL (hnew b' q4 q5 (by rw [q3]; exact eff_fold he' hb)) q2 q1
   | word d hd =>
    obtain ⟨b, r, rfl, hb, hnew⟩ := hI.top
    obtain ⟨n1, n2, n3⟩ := name_plain d hd 119 (Or.inl rfl)
    obtain ⟨f1, e1, h0, h1, h2⟩ := def_tok hD hS n3
    obtain ⟨y, y1, y2, y3⟩ := stp_own he (ba_list _) n1 n2 h0
    rw [y3] at h1
    refine fin fs _ _ _ _ kn _ hL (hnew (b.add y.use) rfl rfl ?_) h2 h1
    show Eff (b.does.then y.use)
    unfold PE.use
    rw [if_neg (by rw [y1]; decide)]
    exact effq_then hb (effq_then (eff_op 33 (by decide)) y2)
   | iff =>
    obtain ⟨b, r, rfl, hb, hnew⟩ := hI.top
    obtain ⟨f', tk', dc', b', e, q1, q2, q3, q4, q5⟩ := read_plain (al := false) he [[100, 117, 112], [51], [62]] (by decide +kernel) f tk dc b a hD hS
    obtain ⟨f1, e1, h0, h1, h2⟩ := def_tok q1 q2 (by decide +kernel)
    rw [show (⟨[105, 102].toArray⟩ : ByteArray) = ⟨#[105, 102]⟩ from rfl, stp_if] at h1
    refine fin (0 :: fs) _ _ _ _ kn _ hL (invB_0 rfl eff_zero rfl (hnew (b'.add (opInf 29)) q4 q5 ?_)) h2 h1
    show Eff (b'.does.then (opInf 29))
    rw [q3]
    exact eff_fold (l := infT [[100, 117, 112], [51], [62]] ++ [opInf 29]) (by decide +kernel) hb |> fun h => by rw [List.foldl_append] at h; exact h
   | els =>
    rename_i fs'
    cases bl with
    | nil => exact hI.elim
    | cons b r =>
     obtain ⟨i1, i2, i3, i4⟩ := hI
     obtain ⟨c, r', rfl, hc, _⟩ := i4.top
     obtain ⟨f1, e1, h0, h1, h2⟩ := def_tok hD hS (by decide +kernel)
     rw [show (⟨[101, 108, 115, 101].toArray⟩ : ByteArray) = ⟨#[101, 108, 115, 101]⟩ from rfl, stp_else i1] at h1
     exact fin (1 :: fs') _ _ _ _ kn _ hL (invB_1 rfl eff_zero (effq_then i2 (eff_op 30 (by decide))) i4) h2 h1
   | thn0 =>
    cases bl with
    | nil => exact hI.elim
    | cons b r =>
     obtain ⟨i1, i2, i3, i4⟩ := hI
     obtain ⟨c, r', rfl, hc, hnew⟩ := i4.top
     obtain ⟨f1, e1, h0, h1, h2⟩ := def_tok hD hS (by decide +kernel)
     rw [show (⟨[116, 104, 101, 110].toArray⟩ : ByteArray) = ⟨#[116, 104, 101, 110]⟩ from rfl, stp_then (Or.inl i1) (by rw [i2.t, i3]; rfl)] at h1
     refine fin _ _ _ _ _ kn _ hL (hnew (c.add (b.does.orP b.other)) rfl rfl ?_) h2 h1
     exact effq_then hc (effq_or i2 (by rw [i3]; exact eff_zero))
   | thn1 =>
    cases bl with
    | nil => exact hI.elim
    | cons b r =>
     obtain ⟨i1, i2, i3, i4⟩ := hI
     obtain ⟨c, r', rfl, hc, hnew⟩ := i4.top
     obtain ⟨f1, e1, h0, h1, h2⟩ := def_tok hD hS (by decide +kernel)
     rw [show (⟨[116, 104, 101, 110].toArray⟩ : ByteArray) = ⟨#[116, 104, 101, 110]⟩ from rfl, stp_then (Or.inr i1) (by rw [i2.t, i3.t])] at h1
     refine fin _ _ _ _ _ kn _ hL (hnew (c.add (b.does.orP b.other)) rfl rfl ?_) h2 h1
     exact effq_then hc (effq_or i2 i3)
   | doo d e hd he2 =>
    obtain ⟨b, r, rfl, hb, hnew⟩ := hI.top
    obtain ⟨d1, d2⟩ := digit_plain d hd
    obtain ⟨e1, e2⟩ := digit_plain e he2
    have hpl : plainG false [[d], [e]] = true := by
     simp only [plainG, List.all_cons, List.all_nil, Bool.and_true, d1, d2, e1, e2, Option.isSome_some, quietT, Bool.not_false, Bool.true_or, Bool.and_self]
    obtain ⟨f', tk', dc', b', p, q1, q2, q3, q4, q5⟩ := read_plain (al := false) he [[d], [e]] hpl f tk dc b a hD hS
    obtain ⟨f1, p1, h0, h1, h2⟩ := def_tok q1 q2 (by decide +kernel)
    rw [show (⟨[100, 111].toArray⟩ : ByteArray) = ⟨#[100, 111]⟩ from rfl] at h0 h1
    rw [stp_do h0] at h1
    refine fin (2 :: fs) _ _ _ _ kn _ hL (invB_2 rfl eff_zero (hnew (b'.add (opInf 31)) q4 q5 ?_)) h2 h1
    show Eff (b'.does.then (opInf 31))
    have hinf : infT [[d], [e]] = [opInf 28, opInf 28] := by
     unfold infT
     rw [List.filterMap_cons, d1, List.filterMap_cons, e1]
     rfl
    rw [q3, hinf]
    exact eff_fold (l := [opInf 28, opInf 28] ++ [opInf 31]) (by decide +kernel) hb |> fun h => by rw [List.foldl_append] at h; exact h
   | loop =>
    cases bl with
    | nil => exact hI.elim
    | cons b r =>
     obtain ⟨i1, i2, i4⟩ := hI
     obtain ⟨f', tk', dc', b', p, q1, q2, q3, q4, q5⟩ := read_plain (al := false) he [[105], [43]] (by decide +kernel) f tk dc b a hD hS
     obtain ⟨c, r', rfl, hc, hnew⟩ := i4.top
     obtain ⟨f1, e1, h0, h1, h2⟩ := def_tok q1 q2 (by decide +kernel)
     have hb' : Eff b'.does := by rw [q3]; exact eff_fold (by decide +kernel) i2
     rw [show (⟨[108, 111, 111, 112].toArray⟩ : ByteArray) = ⟨#[108, 111, 111, 112]⟩ from rfl, stp_loop (q4.trans i1) hb'.t] at h1
     refine fin _ _ _ _ _ kn _ hL (hnew (c.add ((b'.does.then (opInf 32)).timesP b'.times)) rfl rfl ?_) h2 h1
     exact effq_then hc (effq_times (effq_then hb' (eff_op 32 (by decide))))
   | semi =>
    cases bl with
    | nil => exact hI.elim
    | cons b r =>
     cases r with
     | cons _ _ => exact hI.elim
     | nil =>
      obtain ⟨i1, i2⟩ := hI
      obtain ⟨f1, e1, h0, h1, h2⟩ := def_tok hD hS (by decide +kernel)
      rw [show (⟨[59].toArray⟩ : ByteArray) = ⟨#[59]⟩ from rfl, stp_semi i1] at h1
      cases f1 with
      | zero => rw [defP] at h1; cases h1
      | succ f1 =>
       rw [defP] at h1
       injection h1 with h1
       rw [← h1]
       exact ⟨effq_then i2 (eff_op 34 (by decide)), L, hL, h2, by simp⟩
end
theorem def_err {es : List PE} {nt : Int} {s : ByteArray} {E P : Int} : ∀ {f : Nat} {tk : Int} {dc : List Int} {bl : List PB} {kn : Inf} {a : Nat}, defP es nt s f tk dc bl kn a = .inr (E, P) → E ≠ 0
 | 0, _, _, _, _, _, h => by
  rw [defP] at h
  injection h with h
  injection h with h1 h2
  rw [← h1]; decide
 | f + 1, tk, dc, [], kn, a, h => by rw [defP] at h; cases h
 | f + 1, tk, dc, b :: r, kn, a, h => by
  rw [defP] at h
  split at h
  ·exact def_err h
  ·rename_i h0
   injection h with h
   injection h with h1 h2
   rw [← h1]; exact h0
theorem read_all {al : Bool} {s : ByteArray} : ∀ (n : Nat) (L : List (List (List UInt8))) (f a : Nat) (es : List PE) (nv nt : Int) (code : List Int), L.length ≤ n → Fwd al .out L → Sfx s a L.flatten → EsOk es → EsOk (loadP s f a es nv nt code).2.1 := by
 intro n
 induction n with
 | zero =>
  intro L f a es nv nt code hn hF hS he
  obtain rfl : L = [] := List.length_eq_zero_iff.1 (by omega)
  cases f with
  | zero => exact he
  | succ f =>
   rw [loadP, if_pos (nx_nil (by simpa using hS))]
   exact he
 | succ n ih =>
  intro L f a es nv nt code hn hF hS he
  cases f with
  | zero => exact he
  | succ f =>
   cases hF with
   | nil =>
    rw [loadP, if_pos (nx_nil (by simpa using hS))]
    exact he
   | cons hg hL =>
    rw [List.flatten_cons] at hS
    cases hg with
    | var d hd =>
     obtain ⟨b1, e1, h1, h2⟩ := nx_sfx hS (by decide +kernel)
     obtain ⟨_, _, n3⟩ := name_plain d hd 118 (Or.inr (Or.inr rfl))
     obtain ⟨b2, e2, h3, h4⟩ := nx_sfx h2 n3
     rw [loadP, h1]
     simp only
     rw [if_neg (by decide +kernel), if_pos (by decide +kernel), h3]
     simp only
     have hv : EsOk (varP es nv s e1).2.1 := by
      unfold varP
      rw [h3]
      simp only
      split
      ·split
       ·exact he
       ·intro x hx
        rcases List.mem_append.1 hx with hx | hx
        ·exact he x hx
        ·rw [List.mem_singleton.1 hx]
         exact Or.inl ⟨rfl, d, ba_list _⟩
      ·exact he
     split
     ·exact ih _ f _ _ _ _ _ (by simpa using hn) hL h4 hv
     ·exact hv
    | colon d hd =>
     obtain ⟨b1, e1, h1, h2⟩ := nx_sfx hS (by decide +kernel)
     obtain ⟨_, _, n3⟩ := name_plain d hd 119 (Or.inl rfl)
     obtain ⟨b2, e2, h3, h4⟩ := nx_sfx h2 n3
     rw [loadP, h1]
     simp only
     rw [if_neg (by decide +kernel), if_neg (by decide +kernel), if_pos (by decide +kernel)]
     unfold wordP
     rw [h3]
     simp only
     split
     ·rename_i hr
      cases hd2 : defP es nt s (s.size + 2) 2 code [PB.first] Inf.zero e2 with
      | inr q =>
       obtain ⟨E, P⟩ := q
       simp only
       split
       ·rename_i h0
        exact absurd h0 (def_err hd2)
       ·exact he
      | inl q =>
       obtain ⟨dc, kn, tk, a'⟩ := q
       simp only
       obtain ⟨q1, L', q2, q3, q4⟩ := read_body he _ [] _ _ _ _ _ _ hL (invB_n rfl eff_zero) h4 hd2
       have he2 : EsOk (es ++ [⟨⟨[119, d].toArray⟩, false, code.length, kn⟩]) := by
        intro x hx
        rcases List.mem_append.1 hx with hx | hx
        ·exact he x hx
        ·rw [List.mem_singleton.1 hx]
         exact Or.inr (Or.inl ⟨rfl, ⟨d, ba_list _⟩, q1⟩)
       rw [if_pos trivial]
       exact ih L' f _ _ _ _ _ (by simp at hn; omega) q2 q3 he2
     ·rename_i hr
      exact he
theorem made_words {al : Bool} {s : ByteArray} (h : TextG al .out s) : EsOk (loadR s [] 0 0 []).2.1 := by
 unfold loadR
 split
 ·exact fun x hx => by cases hx
 ·obtain ⟨L, h1, h2⟩ := h.fwd
  exact read_all _ L _ 0 [] 0 0 [] (Nat.le_refl _) h1 h2 (fun x hx => by cases hx)
section
variable {o : List Bool} {dc : List Int} {st r : List PB} {b c : PB} {k v : Int} {es : List PE} {nt tk : Int} {kn : Inf} {s : ByteArray}
end
def taskT (c d k : UInt8) : List UInt8 := [58, 32, 116, c, 32, d, 32, 119, k, 32, 100, 114, 111, 112, 32, 59]
theorem drop_plain : plainE ⟨[100, 114, 111, 112].toArray⟩ = some (opInf 17) ∧ tokB [100, 114, 111, 112] = true := ⟨by kernel_rfl, by decide +kernel⟩
theorem opInf_vals : (opInf 28).need = 0 ∧ (opInf 28).net = 1 ∧ (opInf 28).high = 1 ∧ (opInf 17).need = 1 ∧ (opInf 17).net = -1 ∧ (opInf 17).high = 0 ∧ (opInf 33).need = 0 ∧ (opInf 33).net = 0 ∧ (opInf 33).high = 0 ∧ (opInf 34).need = 0 ∧ (opInf 34).net = 0 ∧ (opInf 34).high = 0 := by decide +kernel
theorem task_words {es : List PE} (he : EsOk es) {c d k : UInt8} (hc : rng c) (hd : rng d) (hk : rng k) {s : ByteArray} (hs : s.data.toList = taskT c d k) (nv nt : Int) (code : List Int) : EsOk (loadR s es nv nt code).2.1 ∧ ((loadR s es nv nt code).2.1 = es ∨ ∃ x : PE, (loadR s es nv nt code).2.1 = es ++ [x] ∧ x.name.toList = [116, c]) := by
 unfold loadR
 split
 ·exact ⟨he, Or.inl rfl⟩
 ·have hS : Sfx s 0 ([[58], [116, c], [d], [119, k], [100, 114, 111, 112], [59]]) := ⟨0, [32], Or.inl rfl, Nat.zero_le _, Or.inr rfl, by rw [List.drop_zero, hs]; rfl⟩
  obtain ⟨b1, e1, h1, h2⟩ := nx_sfx hS (by decide +kernel)
  obtain ⟨_, _, n3⟩ := name_plain c hc 116 (Or.inr (Or.inl rfl))
  obtain ⟨b2, e2, h3, h4⟩ := nx_sfx h2 n3
  rw [loadP, h1]
  simp only
  rw [if_neg (by decide +kernel), if_neg (by decide +kernel), if_pos (by decide +kernel)]
  unfold wordP
  rw [h3]
  simp only
  split
  ·rename_i hr
   cases hd2 : defP es nt s (s.size + 2) 2 code [PB.first] Inf.zero e2 with
   | inr q =>
    obtain ⟨E, P⟩ := q
    simp only
    split
    ·rename_i h0
     exact absurd h0 (def_err hd2)
    ·exact ⟨he, Or.inl rfl⟩
   | inl q =>
    obtain ⟨dc, kn, tk, a'⟩ := q
    simp only
    rw [if_pos trivial]
    have key : TEff kn ∧ Sfx s a' [] := by
     obtain ⟨d1, d2⟩ := digit_plain d hd
     have hpl : plainG false [[d]] = true := by
      simp only [plainG, List.all_cons, List.all_nil, Bool.and_true, d1, d2, Option.isSome_some, quietT, Bool.not_false, Bool.true_or, Bool.and_self]
     obtain ⟨f', tk', dc', b', p, q1, q2, q3, q4, q5⟩ := read_plain (al := false) (rest := [[119, k], [100, 114, 111, 112], [59]]) he [[d]] hpl _ _ _ _ _ hd2 h4
     obtain ⟨n1, n2, n3⟩ := name_plain k hk 119 (Or.inl rfl)
     obtain ⟨f1, p1, g0, g1, g2⟩ := def_tok q1 q2 n3
     obtain ⟨y, y1, y2, y3⟩ := stp_own he (ba_list _) n1 n2 g0
     rw [y3] at g1
     obtain ⟨m1, m2⟩ := drop_plain
     obtain ⟨f2, p2, v0, v1, v2⟩ := def_tok g1 g2 m2
     obtain ⟨b2, w1, w2, w3⟩ := step_plain he m1 v0
     rw [w1, w2] at v1
     obtain ⟨f3, p3, x0, x1, x2⟩ := def_tok v1 v2 (by decide +kernel)
     have ho : b2.opener = 34 := by rw [w3.o]; show (b'.add y.use).opener = 34; exact q4
     rw [show (⟨[59].toArray⟩ : ByteArray) = ⟨#[59]⟩ from rfl, stp_semi ho] at x1
     cases f3 with
     | zero => rw [defP] at x1; cases x1
     | succ f3 =>
      rw [defP] at x1
      injection x1 with x1
      injection x1 with z1 z2
      injection z2 with z2 z3
      injection z3 with z3 z4
      refine ⟨?_, by rw [← z4]; exact x2⟩
      have hinf : infT [[d]] = [opInf 28] := by
       unfold infT
       rw [List.filterMap_cons, d1]
       rfl
      have hb2 : b2.does = ((Inf.zero.then (opInf 28)).then y.use).then (opInf 17) := by
       rw [w3.d]
       show ((b'.does.then y.use).then (opInf 17)) = _
       rw [q3, hinf]; rfl
      have hu : y.use = (opInf 33).then y.inf := by unfold PE.use; rw [if_neg (by rw [y1]; decide)]
      rw [hb2, hu] at z2
      obtain ⟨o1, o2, o3, o4, o5, o6, o7, o8, o9, o10, o11, o12⟩ := opInf_vals
      have := y2.n0; have := y2.n1; have := y2.t; have := y2.h0; have := y2.h1
      rw [← z2]
      constructor <;> simp only [Inf.then, Inf.zero] <;> omega
    obtain ⟨t1, t2⟩ := key
    have he2 : EsOk (es ++ [⟨⟨[116, c].toArray⟩, false, code.length, kn⟩]) := by
     intro x hx
     rcases List.mem_append.1 hx with hx | hx
     ·exact he x hx
     ·rw [List.mem_singleton.1 hx]
      exact Or.inr (Or.inr ⟨rfl, ⟨c, ba_list _⟩, t1⟩)
    have hnil := nx_nil t2
    have hsz : s.size ≠ 0 := by
     have : s.size = s.data.toList.length := by simp
     rw [this, hs]; simp [taskT]
    obtain ⟨g, hg⟩ : ∃ g, s.size = g + 1 := ⟨s.size - 1, by omega⟩
    rw [hg, loadP, if_pos hnil]
    exact ⟨he2, Or.inr ⟨_, rfl, ba_list _⟩⟩
  ·exact ⟨he, Or.inl rfl⟩
section
variable {s : ByteArray} {a : Nat} {es : List PE} {nt : Int} {X : List Int × Inf × Int × Nat}
end
section
variable {l m : List Int} {p : Nat} {k v : Int}
end
section
variable {o : List Bool} {dc : List Int} {st r : List PB} {b c : PB} {k v : Int} {es : List PE} {nt tk : Int} {kn : Inf} {s : ByteArray} {a : Nat} {X : List Int × Inf × Int × Nat}
end
section
variable {es : List PE} {code : List Int} {m : MS} {u : MW} {k : Nat}
end
section
variable {code : List Int} {m0 : MS} {N : Nat} {u : MW}
end
section
variable {es : List PE} {code : List Int} {ws : List RW} {m0 : MS} {N k : Nat} {s : List Int} {n : Nat}
end
attribute [local go_sem] quietG
end Go.Proofs.YtcphhbofjkenaaaGreatDoor
namespace Go.Proofs.YtcphhbofjkenaaaGreatDoor
open Go Go.RowKit
set_option linter.unusedVariables false
set_option linter.unusedSimpArgs false
attribute [local go_sem] quietG
structure LSys (lo : Nat) (w : World) (bb : Nat) (ev cv : Value) (R : List PE × Int × Int × List Int) : Prop where
 sys : PSys w bb ev cv R.1 R.2.1 R.2.2.1 R.2.2.2
 inv : LInv R.1 R.2.1 R.2.2.1 R.2.2.2
 tab : Tab w
 bas : lo ≤ bb
 rows : ∀ k, ev.ownBlock = some k → lo ≤ k
 cods : ∀ k, cv.ownBlock = some k → lo ≤ k
theorem LSys.below {lo : Nat} {w w' : World} {bb : Nat} {ev cv : Value} {R : List PE × Int × Int × List Int} (h : LSys lo w bb ev cv R) (hb : Below w.heap.size w w') : LSys lo w' bb ev cv R :=
 ⟨h.sys.below hb, h.inv, h.tab.below hb, h.bas, h.rows, h.cods⟩
def touch (bb : Nat) (ev cv : Value) (k : Nat) : Prop := k = bb ∨ ev.ownBlock = some k ∨ cv.ownBlock = some k
theorem LSys.touch_lo {lo : Nat} {w : World} {bb : Nat} {ev cv : Value} {R : List PE × Int × Int × List Int} (h : LSys lo w bb ev cv R) {k : Nat} (hk : touch bb ev cv k) : lo ≤ k := by
 rcases hk with rfl | e | e
 ·exact h.bas
 ·exact h.rows k e
 ·exact h.cods k e
theorem LSys.load {lo : Nat} {w w' : World} {bb : Nat} {ev cv : Value} {R : List PE × Int × Int × List Int} {s : ByteArray} {e : Ending} (h : LSys lo w bb ev cv R) (hlo : lo ≤ w.heap.size) (hp : LoadPost w bb ev cv (loadR s R.1 R.2.1 R.2.2.1 R.2.2.2) e w') :
  e = .returned (.tuple #[.int .i64 (loadR s R.1 R.2.1 R.2.2.1 R.2.2.2).1.1, .int .i64 (loadR s R.1 R.2.1 R.2.2.1 R.2.2.2).1.2]) ∧ (∃ ev' cv', LSys lo w' bb ev' cv' (loadR s R.1 R.2.1 R.2.2.1 R.2.2.2).2 ∧ (∀ k, touch bb ev' cv' k → touch bb ev cv k ∨ w.heap.size ≤ k)) ∧ Chg (touch bb ev cv) w w' := by
 obtain ⟨h1, ⟨ev', cv', h2, h3, l1, l2⟩, h5, h6⟩ := hp
 refine ⟨h1, ⟨ev', cv', ⟨h2, h5, h3, h.bas, fun k hk => ?_, fun k hk => ?_⟩, fun k hk => ?_⟩, h6⟩
 ·rcases l1 k hk with e | e
  ·exact h.rows k e
  ·omega
 ·rcases l2 k hk with e | e
  ·exact h.cods k e
  ·omega
 ·rcases hk with rfl | e | e
  ·exact Or.inl (Or.inl rfl)
  ·exact (l1 k e).imp (fun e => Or.inr (Or.inl e)) id
  ·exact (l2 k e).imp (fun e => Or.inr (Or.inr e)) id
theorem LSys.chg {lo : Nat} {S : Nat → Prop} {w w' : World} {bb : Nat} {ev cv : Value} {R : List PE × Int × Int × List Int} (h : LSys lo w bb ev cv R) (hc : Chg S w w') (ht : Tab w') (hn : ∀ k, touch bb ev cv k → ¬ S k) : LSys lo w' bb ev cv R :=
 ⟨h.sys.chg hc (hn _ (Or.inl rfl)) (fun k hk => hn k (Or.inr (Or.inl hk))) (fun k hk => hn k (Or.inr (Or.inr hk))), h.inv, ht, h.bas, h.rows, h.cods⟩
theorem load_new2 {w w1 w2 : World} {bb : Nat} {s : ByteArray} {e : Ending} (h0 : w.heap.size ≤ bb) (hb : Below w.heap.size w w1) (hp : LoadPost w1 bb (.slice none 0 0) (.slice none 0 0) (loadR s [] 0 0 []) e w2) :
  e = .returned (.tuple #[.int .i64 (loadR s [] 0 0 []).1.1, .int .i64 (loadR s [] 0 0 []).1.2]) ∧ (∃ ev cv ws, LSys w.heap.size w2 bb ev cv (loadR s [] 0 0 []).2 ∧ Alk (loadR s [] 0 0 []).2.1 (loadR s [] 0 0 []).2.2.2.2 ws ∧ WsB ws) ∧ Below w.heap.size w w2 := by
 obtain ⟨h1, ⟨ev, cv, h2, h3, l1, l2⟩, h5, h6⟩ := hp
 obtain ⟨ws, a1, a2, _⟩ := load_ws s alk_nil LInv.zero wsOk_nil WsB.nil
 have hs := hb.size
 refine ⟨h1, ⟨ev, cv, ws, ⟨h2, h5, h3, h0, fun k hk => ?_, fun k hk => ?_⟩, a1, a2⟩, hb.trans (h6.toBelow hb.size fun b hbb e => ?_)⟩
 ·rcases l1 k hk with e | e
  ·simp [Value.ownBlock] at e
  ·omega
 ·rcases l2 k hk with e | e
  ·simp [Value.ownBlock] at e
  ·omega
 ·rcases e with e | e | e
  ·omega
  ·simp [Value.ownBlock] at e
  ·simp [Value.ownBlock] at e
def LoadedPost2 (w : World) (s : ByteArray) (e : Ending) (w' : World) : Prop := ∃ (bb : Nat) (ev cv : Value) (ws : List RW), e = .returned (.tuple #[.pointer (some ⟨bb, 0, none⟩), .bool ((loadR s [] 0 0 []).1.1 == 0)]) ∧ w.heap.size ≤ bb ∧ (LSys w.heap.size w' bb ev cv (loadR s [] 0 0 []).2 ∧ Alk (loadR s [] 0 0 []).2.1 (loadR s [] 0 0 []).2.2.2.2 ws ∧ WsB ws) ∧ Below w.heap.size w w'
set_option maxRecDepth 100000 in
set_option maxHeartbeats 4000000 in
theorem keep_loaded2 (w : World) (mb : Nat) {a : Option Addr} {nn c : Nat} {i : Int} {s : ByteArray} {k v : Int} {al : Bool} (hb : Blk w mb (mkC a nn c i s k v al) 34) (ht : Tab w) (hs : s.size ≤ 100000) :
  Calls Tryz.prog 15 #[.pointer (some ⟨mb, 0, none⟩)] w fun e w' => LoadedPost2 w s e w' := by
 have HT := hidden ht; have HB := hidden hb
 have HN := hidden (forth_new w ht)
 clear ht hb
 go_enter Tryz.func15, Tryz.ntmps15
 go_wp2_with fail
 refine HN.out.mono ?_
 rintro e w1 ⟨bb, hbb, rfl, hp, hb1⟩
 have HW := hidden (keep_works w1 (HT.out.below hb1))
 have HP := hidden hp; have HB1 := hidden hb1
 clear hp hb1 HN
 go_wp2_with fail
 refine HW.out.mono ?_
 rintro e w2 ⟨rfl, hb2⟩
 have hb12 := HB1.out.trans (hb2.mono HB1.out.size)
 have hbl := HB.out.sub hb12 HB.out.lt
 have c2 : w2.cell? ⟨mb, 2, none⟩ = some (.string s) := hbl.cell 2 _ rfl
 have hml := hbl.lt
 have HL := hidden (forth_load s (HP.out.below hb2) (HT.out.below hb12) (by omega) LInv.zero)
 have HB2 := hidden hb12
 clear hb2 hb12 hbl HW HP HB1
 go_wp2_with fail
 refine HL.out.mono ?_
 intro e w3 hpost
 obtain ⟨h1, ⟨ev, cv, ws, hK⟩, hb3⟩ := load_new2 hbb HB2.out hpost
 subst h1
 have HK := hidden hK; have HB3 := hidden hb3
 clear hpost hK hb3 HL HB2 c2
 obtain ⟨r1, hr1⟩ : ∃ r, r = (loadR s [] 0 0 []).1.1 := ⟨_, rfl⟩
 obtain ⟨r2, hr2⟩ : ∃ r, r = (loadR s [] 0 0 []).1.2 := ⟨_, rfl⟩
 rw [← hr1, ← hr2]
 have HR1 := hidden hr1
 clear hr1 hr2
 go_wp2_with fail
 exact bodyPost_ret (v := .tuple #[.pointer (some ⟨bb, 0, none⟩), .bool (r1 == 0)]) (by simp [results, Tryz.results15, go_sem]) rfl (show LoadedPost2 _ _ _ _ from ⟨bb, ev, cv, ws, by rw [HR1.out], hbb, HK.out, HB3.out⟩)
end Go.Proofs.YtcphhbofjkenaaaGreatDoor
