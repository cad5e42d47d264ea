import Derived.Test.YtcphhbofjkenaaaGreatDoorU36
namespace Go.Proofs.YtcphhbofjkenaaaGreatDoor
open Go Go.RowKit
set_option linter.unusedVariables false
set_option linter.unusedSimpArgs false
section
variable {s : ByteArray}
end
section
variable {es : List PE} {nt : Int} {s : ByteArray} {f : Nat} {tk : Int} {dc : List Int} {b : PB} {r : List PB} {kn : Inf} {a : Nat} {X : List Int × Inf × Int × Nat}
end
section
variable {es : List PE} {nt tk : Int} {dc : List Int} {b c : PB} {r : List PB} {kn : Inf}
end
section
variable {es : List PE} {nt : Int} {s : ByteArray}
end
structure DcOk (o : List Bool) (dc : List Int) (st : List PB) : Prop where
 s : strm false dc = true
 p : ∃ e, opd false dc = o ++ e ∧ e.head? ≠ some true
 h : ∀ b ∈ st, b.opener ≠ 34 → (opd false dc)[b.hole.toNat]? = some true
section
variable {o : List Bool} {dc : List Int} {st r : List PB} {b c : PB} {k v : Int} {es : List PE} {nt tk : Int} {kn : Inf} {s : ByteArray}
theorem opd_left (h : strm false dc = true) (m : List Int) {p : Nat} (hp : (opd false dc)[p]? = some true) : (opd false (dc ++ m))[p]? = some true := by
 rw [opd_append dc m h, List.getElem?_append_left (List.getElem?_eq_some_iff.1 hp).1]
 exact hp
theorem opd_more (h : strm false dc = true) (hp : ∃ e, opd false dc = o ++ e ∧ e.head? ≠ some true) (m : List Int) : ∃ e, opd false (dc ++ m) = o ++ e ∧ e.head? ≠ some true := by
 obtain ⟨e, h1, h2⟩ := hp
 refine ⟨e ++ opd false m, by rw [opd_append dc m h, h1, List.append_assoc], ?_⟩
 cases e with
 | nil => cases m <;> simp [opd]
 | cons x e => simpa using h2
theorem DcOk.one (h : DcOk o dc st) (h1 : takes k = false) (h2 : quietC k = true) : DcOk o (dc ++ [k]) st :=
 ⟨by rw [strm_append dc _ h.s]; simp [strm, h1, h2], opd_more h.s h.p _, fun b hb ho => opd_left h.s _ (h.h b hb ho)⟩
theorem takes_quiet (h : takes k = true) : quietC k = true := by
 unfold takes at h
 unfold quietC
 simp only [Bool.and_eq_true, decide_eq_true_eq] at h ⊢
 omega
theorem DcOk.two (h : DcOk o dc st) (h1 : takes k = true) : DcOk o (dc ++ [k, v]) st ∧ (opd false (dc ++ [k, v]))[dc.length + 1]? = some true := by
 refine ⟨⟨by rw [strm_append dc _ h.s]; simp [strm, h1, takes_quiet h1], opd_more h.s h.p _, fun b hb ho => opd_left h.s _ (h.h b hb ho)⟩, ?_⟩
 rw [opd_append dc _ h.s, List.getElem?_append_right (by rw [opd_length]; omega), opd_length]
 simp [opd, h1]
theorem DcOk.set (h : DcOk o dc st) {p : Nat} (hp : (opd false dc)[p]? = some true) : DcOk o (dc.set p v) st := by
 obtain ⟨h1, h2⟩ := opd_set v dc false p hp
 exact ⟨h2.trans h.s, by rw [h1]; exact h.p, fun b hb ho => by rw [h1]; exact h.h b hb ho⟩
theorem DcOk.tail (h : DcOk o dc (b :: r)) : DcOk o dc r := ⟨h.s, h.p, fun c hc => h.h c (List.mem_cons_of_mem _ hc)⟩
theorem DcOk.cons (h : DcOk o dc r) (hb : b.opener ≠ 34 → (opd false dc)[b.hole.toNat]? = some true) : DcOk o dc (b :: r) :=
 ⟨h.s, h.p, fun c hc => by
  rcases List.mem_cons.1 hc with rfl | hc
  ·exact hb
  ·exact h.h c hc⟩
theorem DcOk.like (h : DcOk o dc (b :: r)) (h1 : c.opener = b.opener) (h2 : c.hole = b.hole) : DcOk o dc (c :: r) :=
 h.tail.cons fun ho => by rw [h2]; exact h.h b (List.mem_cons_self ..) (h1 ▸ ho)
def Qt (s : ByteArray) : Prop := ∀ k, opFind s = some k → takes (k : Int) = false ∧ quietC (k : Int) = true
theorem stepW_dc (h : DcOk o dc (b :: r)) (hq : Qt s) (h0 : (stepW es dc b r kn s).1 = 0) : DcOk o (stepW es dc b r kn s).2.1 (stepW es dc b r kn s).2.2.1 := by
 unfold stepW at h0 ⊢
 split
 ·rename_i x hx
  refine DcOk.like (b := b) (h.two ?_).1 rfl rfl
  unfold PE.op
  split <;> rfl
 ·split
  ·rename_i h1 _ h2
   rw [h1] at h0
   simp only [h2] at h0
   exact absurd h0 (by decide)
  ·rename_i h1 _ k hk
   split
   ·exact h
   ·exact DcOk.like (b := b) (h.one (hq k hk).1 (hq k hk).2) rfl rfl
theorem opened_hole (b c : PB) (n : Nat) : (PB.opened b c (n + 2)).hole.toNat = n + 1 := by
 simp [PB.opened]; omega
theorem step_dc (h : DcOk o dc st) (hq : Qt s) (h0 : (stepP es nt tk dc st kn s).1 = 0) : DcOk o (stepP es nt tk dc st kn s).2.1 (stepP es nt tk dc st kn s).2.2.1 := by
 unfold stepP at h0 ⊢
 cases st with
 | nil => exact h
 | cons b r =>
  simp only at h0 ⊢
  by_cases c1 : (s.toList == []) = true
  ·rw [if_pos c1]; exact h
  rw [if_neg c1] at h0 ⊢
  by_cases c2 : (s.toList == [58]) = true
  ·rw [if_pos c2]; exact h
  rw [if_neg c2] at h0 ⊢
  by_cases c3 : (s.toList == [118, 97, 114, 105, 97, 98, 108, 101]) = true
  ·rw [if_pos c3]; exact h
  rw [if_neg c3] at h0 ⊢
  by_cases c4 : (s.toList == [59]) = true
  ·rw [if_pos c4]
   by_cases d : b.opener = 34
   ·rw [if_pos d]
    exact ⟨(h.one (k := 34) rfl rfl).s, (h.one (k := 34) rfl rfl).p, fun _ hb => by cases hb⟩
   ·rw [if_neg d]; exact h
  rw [if_neg c4] at h0 ⊢
  by_cases c5 : (s.toList == [105, 102]) = true
  ·rw [if_pos c5]
   obtain ⟨a1, a2⟩ := h.two (k := 29) (v := 0) rfl
   exact (DcOk.like (b := b) (c := b.add (opInf 29)) a1 rfl rfl).cons fun _ => by rw [opened_hole]; exact a2
  rw [if_neg c5] at h0 ⊢
  by_cases c6 : (s.toList == [101, 108, 115, 101]) = true
  ·rw [if_pos c6] at h0 ⊢
   by_cases d : b.opener = 29
   ·rw [if_pos d] at h0 ⊢
    cases r with
    | nil => exact h
    | cons c r =>
     obtain ⟨a1, a2⟩ := h.two (k := 30) (v := 0) rfl
     have hb := a1.h b (List.mem_cons_self ..) (by rw [d]; decide)
     have e := opd_set ((dc.length : Int) + 2) _ false _ hb
     exact (a1.set hb).tail.cons fun _ => by rw [opened_hole, e.1]; exact a2
   ·rw [if_neg d]; exact h
  rw [if_neg c6] at h0 ⊢
  by_cases c7 : (s.toList == [116, 104, 101, 110]) = true
  ·rw [if_pos c7] at h0 ⊢
   by_cases d : b.opener = 29 ∨ b.opener = 30
   ·rw [if_pos d] at h0 ⊢
    by_cases d2 : b.does.net = b.other.net
    ·rw [if_pos d2] at h0 ⊢
     cases r with
     | nil => exact h
     | cons c r =>
      have hb := h.h b (List.mem_cons_self ..) (by rcases d with d | d <;> rw [d] <;> decide)
      exact DcOk.like (b := c) (h.set hb).tail rfl rfl
    ·rw [if_neg d2]; exact h
   ·rw [if_neg d]; exact h
  rw [if_neg c7] at h0 ⊢
  by_cases c8 : (s.toList == [100, 111]) = true
  ·rw [if_pos c8] at h0 ⊢
   by_cases d : b.numbers < 2
   ·rw [if_pos d]; exact h
   rw [if_neg d] at h0 ⊢
   by_cases d2 : 1000 < max 0 (b.a0 - b.a1)
   ·rw [if_pos d2]; exact h
   rw [if_neg d2] at h0 ⊢
   obtain ⟨a1, a2⟩ := h.two (k := 31) (v := 0) rfl
   exact (DcOk.like (b := b) (c := b.add (opInf 31)) a1 rfl rfl).cons fun _ => by rw [opened_hole]; exact a2
  rw [if_neg c8] at h0 ⊢
  by_cases c9 : (s.toList == [108, 111, 111, 112]) = true
  ·rw [if_pos c9] at h0 ⊢
   by_cases d : b.opener = 31
   ·rw [if_pos d] at h0 ⊢
    by_cases d2 : b.does.net = 0
    ·rw [if_pos d2] at h0 ⊢
     cases r with
     | nil => exact h
     | cons c r =>
      obtain ⟨a1, a2⟩ := h.two (k := 32) (v := (b.hole.toNat : Int) + 1) rfl
      have hb := a1.h b (List.mem_cons_self ..) (by rw [d]; decide)
      exact DcOk.like (b := c) (a1.set hb).tail rfl rfl
    ·rw [if_neg d2]; exact h
   ·rw [if_neg d]; exact h
  rw [if_neg c9] at h0 ⊢
  by_cases c10 : (numP s).2 = true
  ·rw [if_pos c10]
   exact DcOk.like (b := b) (h.two (k := 28) rfl).1 rfl rfl
  rw [if_neg c10] at h0 ⊢
  exact stepW_dc h hq h0
end
section
variable {s : ByteArray} {a : Nat} {es : List PE} {nt : Int} {X : List Int × Inf × Int × Nat}
def itN (s : ByteArray) : Nat → Nat → Nat
 | 0, a => a
 | n + 1, a => itN s n (nx s a).2.2
def AllQ (s : ByteArray) (a : Nat) : Prop := ∀ n, Qt (nx s (itN s n a)).1
theorem AllQ.head (h : AllQ s a) : Qt (nx s a).1 := h 0
theorem AllQ.tail (h : AllQ s a) : AllQ s (nx s a).2.2 := fun n => h (n + 1)
theorem nx_end (h : Sfx s a []) : nx s a = (⟨#[]⟩, s.size, s.size) := by
 obtain ⟨p, z, hp, hps, hz, hd⟩ := h
 have hz : p = s.size := by
  have := congrArg List.length hd
  simp [joinT] at this
  have e : s.data.size = s.size := rfl
  omega
 have eB : cutB s a = s.size := by
  refine scan_eq (by omega) (Nat.le_refl _) (fun x a1 a2 => ?_) (Or.inl rfl)
  obtain rfl : x = a := by omega
  have : byt s x = 32 := by rcases hp with h | h <;> omega
  rw [this]; rfl
 have eE : cutE s a = s.size := by
  unfold cutE
  rw [show Go.Proofs.YtcphhbofjkenaaaGreatDoor.scan ink s a = s.size from eB]
  exact scan_eq (Nat.le_refl _) (Nat.le_refl _) (fun x a1 a2 => by omega) (Or.inl rfl)
 have hx : s.extract s.size s.size = ⟨#[]⟩ := ByteArray.size_eq_zero_iff.1 (by simp)
 have hl : (⟨#[]⟩ : ByteArray).toList = [] := ba_list []
 show nextF _ _ _ = _
 cases hf : s.size - a with
 | zero => rw [nextF, eB, eE, hx]
 | succ f => rw [nextF, eB, eE, hx, if_neg (by rw [hl]; decide)]
theorem sfx_end (s : ByteArray) : Sfx s s.size [] := ⟨s.size, [], Or.inl rfl, Nat.le_refl _, Or.inl rfl, by
 rw [List.append_nil]
 exact List.drop_eq_nil_of_le (by show s.size ≤ _; exact Nat.le_refl _)⟩
theorem qt_nil : Qt ⟨#[]⟩ := fun k h => by
 obtain ⟨i, x, _, _, _, h4⟩ := opFrom_some _ _ _ _ h
 exact absurd (show (⟨#[]⟩ : ByteArray).toList = [] from ba_list []) h4
theorem sfx_allQ : ∀ (n : Nat) {ts : List (List UInt8)} {a : Nat}, Sfx s a ts → (∀ t ∈ ts, tokB t = true ∧ Qt ⟨t.toArray⟩) → Qt (nx s (itN s n a)).1
 | 0, [], a, h, _ => by
  show Qt (nx s a).1
  rw [nx_end h]; exact qt_nil
 | 0, t :: ts, a, h, hq => by
  obtain ⟨b, e, h1, h2⟩ := nx_sfx h (hq t (List.mem_cons_self ..)).1
  show Qt (nx s a).1
  rw [h1]; exact (hq t (List.mem_cons_self ..)).2
 | n + 1, [], a, h, hq => by
  show Qt (nx s (itN s n (nx s a).2.2)).1
  rw [nx_end h]
  exact sfx_allQ n (sfx_end s) hq
 | n + 1, t :: ts, a, h, hq => by
  obtain ⟨b, e, h1, h2⟩ := nx_sfx h (hq t (List.mem_cons_self ..)).1
  show Qt (nx s (itN s n (nx s a).2.2)).1
  rw [h1]
  exact sfx_allQ n h2 (fun t ht => hq t (List.mem_cons_of_mem _ ht))
theorem def_dc {o : List Bool} : ∀ (f : Nat) (tk : Int) (dc : List Int) (st : List PB) (kn : Inf) (a : Nat), AllQ s a → DcOk o dc st → defP es nt s f tk dc st kn a = .inl X → strm false X.1 = true ∧ AllQ s X.2.2.2 ∧ ∃ e, opd false X.1 = o ++ e ∧ e.head? ≠ some true
 | 0, tk, dc, st, kn, a, hq, hd, h => by rw [defP] at h; cases h
 | f + 1, tk, dc, [], kn, a, hq, hd, h => by
  rw [defP] at h
  cases h
  exact ⟨hd.s, hq, hd.p⟩
 | f + 1, tk, dc, b :: r, kn, a, hq, hd, h => by
  rw [defP] at h
  split at h
  ·rename_i h0
   exact def_dc f _ _ _ _ _ hq.tail (step_dc hd hq.head h0) h
  ·cases h
def PlOk (es : List PE) (code : List Int) : Prop := ∀ x ∈ es, x.var = false → ∃ p : Nat, x.place = p ∧ (opd false code)[p]? ≠ some true ∧ p ≤ code.length
def CqOk (es : List PE) (code : List Int) : Prop := strm false code = true ∧ PlOk es code
theorem PlOk.more {code code' : List Int} {e : List Bool} (h : PlOk es code) (h1 : opd false code' = opd false code ++ e) (h2 : e.head? ≠ some true) : PlOk es code' := by
 have hl : code'.length = code.length + e.length := by rw [← opd_length code' false, ← opd_length code false, h1, List.length_append]
 intro x hx hv
 obtain ⟨p, e1, e2, e3⟩ := h x hx hv
 refine ⟨p, e1, ?_, by omega⟩
 rw [h1]
 by_cases hp : p < (opd false code).length
 ·rw [List.getElem?_append_left hp]; exact e2
 ·rw [List.getElem?_append_right (by omega)]
  rw [opd_length] at hp
  rw [show p - (opd false code).length = 0 by rw [opd_length]; omega, ← List.head?_eq_getElem?]
  exact h2
theorem load_dc : ∀ (f a : Nat) (es : List PE) (nv nt : Int) (code : List Int), AllQ s a → CqOk es code → CqOk (loadP s f a es nv nt code).2.1 (loadP s f a es nv nt code).2.2.2.2
 | 0, a, es, nv, nt, code, hq, hc => hc
 | f + 1, a, es, nv, nt, code, hq, hc => by
  rw [loadP]
  split
  ·exact hc
  split
  ·have hv : CqOk (varP es nv s (nx s a).2.2).2.1 code := by
    unfold varP
    split
    ·split
     ·exact hc
     ·refine ⟨hc.1, fun x hx hv => ?_⟩
      rcases List.mem_append.1 hx with hx | hx
      ·exact hc.2 x hx hv
      ·rw [List.mem_singleton.1 hx] at hv
       cases hv
    ·exact hc
   split
   ·exact load_dc f _ _ _ _ _ hq.tail.tail hv
   ·exact hv
  split
  ·have hw : CqOk (wordP es nt code s (nx s a).2.2).2.1 (wordP es nt code s (nx s a).2.2).2.2.2.1 ∧ ((wordP es nt code s (nx s a).2.2).1.1 = 0 → AllQ s (wordP es nt code s (nx s a).2.2).2.2.2.2) := by
    unfold wordP
    split
    ·rename_i hr
     cases hd : defP es nt s (s.size + 2) 2 code [PB.first] Inf.zero (nx s (nx s a).2.2).2.2 with
     | inr q =>
      obtain ⟨E, P⟩ := q
      exact ⟨hc, fun h0 => absurd h0 (def_err hd)⟩
     | inl q =>
      obtain ⟨dc, kn, tk, a'⟩ := q
      obtain ⟨h1, h2, e, h3, h4⟩ := def_dc (o := opd false code) _ _ _ _ _ _ hq.tail.tail ⟨hc.1, ⟨[], by simp, by simp⟩, fun b hb ho => by
       rw [List.mem_singleton.1 hb] at ho
       exact absurd rfl ho⟩ hd
      simp only at h1 h2 h3
      have hm := hc.2.more h3 h4
      refine ⟨⟨h1, fun x hx hv => ?_⟩, fun _ => h2⟩
      rcases List.mem_append.1 hx with hx | hx
      ·exact hm x hx hv
      ·rw [List.mem_singleton.1 hx]
       have hl : dc.length = code.length + e.length := by rw [← opd_length dc false, ← opd_length code false, h3, List.length_append]
       refine ⟨code.length, rfl, ?_, by show code.length ≤ dc.length; omega⟩
       rw [h3, List.getElem?_append_right (by rw [opd_length]; omega), opd_length, Nat.sub_self, ← List.head?_eq_getElem?]
       exact h4
    ·rename_i hr
     exact ⟨hc, fun h0 => absurd h0 hr⟩
   split
   ·rename_i h0
    exact load_dc f _ _ _ _ _ (hw.2 h0) hw.1
   ·exact hw.1
  ·exact hc
theorem loadR_dc {nv : Int} {code : List Int} {ts : List (List UInt8)} (hs : Sfx s 0 ts) (hq : ∀ t ∈ ts, tokB t = true ∧ Qt ⟨t.toArray⟩) (hc : CqOk es code) : CqOk (loadR s es nv nt code).2.1 (loadR s es nv nt code).2.2.2.2 := by
 unfold loadR
 split
 ·exact hc
 ·exact load_dc _ _ _ _ _ _ (fun n => sfx_allQ n hs hq) hc
end
theorem tab_names : ∀ i : Nat, i < 35 → (opTab.getD i (⟨#[]⟩, 0, 0)).1.data.toList = [] ∨ (opTab.getD i (⟨#[]⟩, 0, 0)).1.data.toList = [64] ∨ (opTab.getD i (⟨#[]⟩, 0, 0)).1.data.toList = [33] ∨ (opTab.getD i (⟨#[]⟩, 0, 0)).1.data.toList = [105, 110] ∨ (takes (i : Int) = false ∧ quietC (i : Int) = true) := by decide +kernel
theorem qt_of {t : List UInt8} (h : quietT true t = true) : Qt ⟨t.toArray⟩ := by
 intro k hk
 have hk0 := opFind_lt hk
 obtain ⟨i, x, h1, h2, h3, h4⟩ := opFrom_some _ _ _ _ hk
 obtain rfl : k = i := by omega
 have hx : opTab.getD k (⟨#[]⟩, 0, 0) = x := by rw [List.getD_eq_getElem?_getD, h2]; rfl
 rw [ba_list] at h3 h4
 rw [Go.Lib.toList_data] at h3
 have h3 : x.1.data.toList = t := h3
 have := tab_names k hk0
 rw [hx, h3] at this
 unfold quietT at h
 rcases this with e | e | e | e | e
 ·exact absurd e h4
 ·rw [e] at h; exact absurd h (by decide)
 ·rw [e] at h; exact absurd h (by decide)
 ·rw [e] at h; exact absurd h (by decide)
 ·exact e
theorem qt_none {s : ByteArray} (h : opFind s = none) : Qt s := fun k hk => by rw [h] at hk; cases hk
def TokQ (t : List UInt8) : Prop := tokB t = true ∧ Qt ⟨t.toArray⟩
theorem tq {t : List UInt8} (h : (tokB t && quietT true t) = true) : TokQ t := by
 rw [Bool.and_eq_true] at h
 exact ⟨h.1, qt_of h.2⟩
theorem tq_name {d : UInt8} (hd : rng d) {x : UInt8} (hx : x = 119 ∨ x = 116 ∨ x = 118) : TokQ [x, d] := by
 obtain ⟨_, h1, h2⟩ := name_plain d hd x hx
 exact ⟨h2, qt_none h1⟩
theorem tq_digit {d : UInt8} (hd : rng d) : TokQ [d] := by
 refine ⟨(digit_plain d hd).2, qt_of ?_⟩
 unfold quietT
 have h1 : d ≠ 64 := fun e => by subst e; exact absurd hd.2 (by decide)
 have h2 : d ≠ 33 := fun e => by subst e; exact absurd hd.1 (by decide)
 simp [h1, h2]
theorem GT.quiet {st st' : St} {ts : List (List UInt8)} (h : GT true st ts st') : ∀ t ∈ ts, TokQ t := by
 cases h with
 | var d h =>
  intro t ht
  simp only [List.mem_cons, List.not_mem_nil, or_false] at ht
  rcases ht with rfl | rfl
  ·exact tq (by decide +kernel)
  ·exact tq_name h (by simp)
 | colon d h =>
  intro t ht
  simp only [List.mem_cons, List.not_mem_nil, or_false] at ht
  rcases ht with rfl | rfl
  ·exact tq (by decide +kernel)
  ·exact tq_name h (by simp)
 | plain ts h he =>
  intro t ht
  have := List.all_eq_true.1 h t ht
  simp only [Bool.and_eq_true] at this
  exact ⟨this.1.1, qt_of this.2⟩
 | word d h =>
  intro t ht
  rw [List.mem_singleton.1 ht]
  exact tq_name h (by simp)
 | doo d e h h2 =>
  intro t ht
  simp only [List.mem_cons, List.not_mem_nil, or_false] at ht
  rcases ht with rfl | rfl | rfl
  ·exact tq_digit h
  ·exact tq_digit h2
  ·exact tq (by decide +kernel)
 | iff | els | thn0 | thn1 | loop | semi =>
  intro t ht
  simp only [List.mem_cons, List.not_mem_nil, or_false] at ht
  rcases ht with rfl | rfl | rfl | rfl <;> exact tq (by decide +kernel)
theorem Fwd.quiet {st : St} {L : List (List (List UInt8))} (h : Fwd true st L) : ∀ t ∈ L.flatten, TokQ t := by
 induction h with
 | nil => exact fun t ht => by simp at ht
 | cons hg hl ih =>
  intro t ht
  rw [List.flatten_cons, List.mem_append] at ht
  rcases ht with ht | ht
  ·exact hg.quiet t ht
  ·exact ih t ht
theorem made_quiet {s : ByteArray} (h : TextG true .out s) : CqOk (loadR s [] 0 0 []).2.1 (loadR s [] 0 0 []).2.2.2.2 := by
 obtain ⟨L, h1, h2⟩ := h.fwd
 exact loadR_dc h2 h1.quiet ⟨rfl, fun x hx => by cases hx⟩
theorem task_quiet {c d k : UInt8} (hc : rng c) (hd : rng d) (hk : rng k) {s : ByteArray} (hs : s.data.toList = taskT c d k) {es : List PE} {nv nt : Int} {code : List Int} (hq : CqOk es code) : CqOk (loadR s es nv nt code).2.1 (loadR s es nv nt code).2.2.2.2 := by
 have hS : Sfx s 0 ([[58], [116, c], [d], [119, k], [100, 114, 111, 112], [59]]) := ⟨0, [32], Or.inl rfl, Nat.zero_le _, Or.inr rfl, by rw [List.drop_zero, hs]; rfl⟩
 refine loadR_dc hS (fun t ht => ?_) hq
 simp only [List.mem_cons, List.not_mem_nil, or_false] at ht
 rcases ht with rfl | rfl | rfl | rfl | rfl | rfl
 ·exact tq (by decide +kernel)
 ·exact tq_name hc (by simp)
 ·exact tq_digit hd
 ·exact tq_name hk (by simp)
 ·exact tq (by decide +kernel)
 ·exact tq (by decide +kernel)
def Cut (l : List Int) (p : Nat) : Prop := (opd false l)[p]? ≠ some true ∧ p ≤ l.length
def JOk (l : List Int) : Prop := ∀ (p : Nat) (k v : Int), Cut l p → l[p]? = some k → takes k = true → k ≠ 28 → l[p + 1]? = some v → Cut l v.toNat
section
variable {l m : List Int} {p : Nat} {k v : Int}
theorem Cut.zero (l : List Int) : Cut l 0 := ⟨by cases l <;> simp [opd], Nat.zero_le _⟩
theorem Cut.end (l : List Int) : Cut l l.length := ⟨by rw [List.getElem?_eq_none (by rw [opd_length]; exact Nat.le_refl _)]; exact (fun h => by cases h), Nat.le_refl _⟩
theorem Cut.no (h : Cut l p) (hp : p < l.length) : (opd false l)[p]? = some false := by
 have hl : p < (opd false l).length := by rw [opd_length]; exact hp
 have := h.1
 rw [List.getElem?_eq_getElem hl] at this ⊢
 cases hb : (opd false l)[p] with
 | true => rw [hb] at this; exact absurd rfl this
 | false => rfl
theorem Cut.app (hs : strm false l = true) (h : Cut l p) (m : List Int) : Cut (l ++ m) p := by
 refine ⟨?_, by have := h.2; rw [List.length_append]; omega⟩
 rw [opd_append l m hs]
 by_cases hp : p < (opd false l).length
 ·rw [List.getElem?_append_left hp]; exact h.1
 ·have := h.2
  rw [List.getElem?_append_right (by omega), show p - (opd false l).length = 0 by rw [opd_length] at hp ⊢; omega]
  cases m <;> simp [opd]
theorem Cut.left (hs : strm false l = true) (h : Cut (l ++ m) p) (hp : p ≤ l.length) : Cut l p := by
 refine ⟨?_, hp⟩
 by_cases hl : p < (opd false l).length
 ·have := h.1
  rw [opd_append l m hs, List.getElem?_append_left hl] at this
  exact this
 ·rw [List.getElem?_eq_none (by omega)]
  exact fun h => by cases h
theorem Cut.set (hp : (opd false l)[p]? = some true) (q : Nat) : Cut (l.set p v) q ↔ Cut l q := by
 unfold Cut
 rw [(opd_set v l false p hp).1, List.length_set]
theorem Cut.next (hs : strm false l = true) (h : Cut l p) (hk : l[p]? = some k) : quietC k = true ∧ (takes k = false → Cut l (p + 1)) ∧ (takes k = true → Cut l (p + 2) ∧ p + 1 < l.length) := by
 have hp := (List.getElem?_eq_some_iff.1 hk).1
 obtain ⟨h1, h2, h3⟩ := strm_at l false p k hs (h.no hp) hk
 refine ⟨h1, fun ht => ⟨?_, by omega⟩, fun ht => ?_⟩
 ·rcases h2 ht with e | e
  ·rw [e]; exact (Cut.end l).1
  ·rw [e]; exact fun h => by cases h
 ·obtain ⟨a, b⟩ := h3 ht
  have ha := (List.getElem?_eq_some_iff.1 a).1
  rw [opd_length] at ha
  refine ⟨⟨?_, by omega⟩, ha⟩
  rcases b with e | e
  ·rw [e]; exact (Cut.end l).1
  ·rw [e]; exact fun h => by cases h
theorem JOk.one (hs : strm false l = true) (h : JOk l) (hk : takes k = false) : JOk (l ++ [k]) := by
 intro p x v hc hx ht h8 hv
 have hp := (List.getElem?_eq_some_iff.1 hx).1
 rw [List.length_append, List.length_singleton] at hp
 by_cases e : p < l.length
 ·rw [List.getElem?_append_left e] at hx
  have hc' := Cut.left hs hc (by omega)
  have := ((hc'.next hs hx).2.2 ht).2
  rw [List.getElem?_append_left this] at hv
  exact (h p x v hc' hx ht h8 hv).app hs _
 ·obtain rfl : p = l.length := by omega
  simp at hx
  rw [← hx, hk] at ht
  cases ht
theorem JOk.two (hs : strm false l = true) (h : JOk l) (hk : takes k = true) (hv : k = 28 ∨ Cut (l ++ [k, v]) v.toNat) : JOk (l ++ [k, v]) := by
 intro p x y hc hx ht h8 hy
 have hp := (List.getElem?_eq_some_iff.1 hx).1
 simp only [List.length_append, List.length_cons, List.length_nil] at hp
 by_cases e : p < l.length
 ·rw [List.getElem?_append_left e] at hx
  have hc' := Cut.left hs hc (by omega)
  have := ((hc'.next hs hx).2.2 ht).2
  rw [List.getElem?_append_left this] at hy
  exact (h p x y hc' hx ht h8 hy).app hs _
 ·by_cases e2 : p = l.length
  ·subst e2
   simp at hx hy
   subst hx; subst hy
   rcases hv with e | e
   ·exact absurd e h8
   ·exact e
  ·exfalso
   obtain rfl : p = l.length + 1 := by omega
   have := hc.1
   rw [opd_append l _ hs, List.getElem?_append_right (by rw [opd_length]; omega), opd_length] at this
   simp [opd, hk] at this
theorem JOk.set (h : JOk l) (hp : (opd false l)[p]? = some true) (hv : Cut l v.toNat) : JOk (l.set p v) := by
 intro q x y hc hx ht h8 hy
 rw [Cut.set hp] at hc ⊢
 have hqp : q ≠ p := fun e => by subst e; exact hc.1 hp
 rw [List.getElem?_set_ne (fun e => hqp e.symm)] at hx
 by_cases e : q + 1 = p
 ·subst e
  rw [List.getElem?_set_self (by have := (List.getElem?_eq_some_iff.1 hp).1; rwa [opd_length] at this)] at hy
  cases hy
  exact hv
 ·rw [List.getElem?_set_ne (fun e' => e e'.symm)] at hy
  exact h q x y hc hx ht h8 hy
end
section
variable {o : List Bool} {dc : List Int} {st r : List PB} {b c : PB} {k v : Int} {es : List PE} {nt tk : Int} {kn : Inf} {s : ByteArray} {a : Nat} {X : List Int × Inf × Int × Nat}
theorem opd_after : ∀ (l : List Int) (b : Bool) (p : Nat), (opd b l)[p]? = some true → (opd b l)[p + 1]? ≠ some true
 | [], b, p, h => by cases b <;> simp [opd] at h
 | k :: r, true, 0, h => by cases r <;> simp [opd]
 | k :: r, false, 0, h => by simp [opd] at h
 | k :: r, true, p + 1, h => by
  simp only [opd, List.getElem?_cons_succ] at h ⊢
  exact opd_after r false p h
 | k :: r, false, p + 1, h => by
  simp only [opd, List.getElem?_cons_succ] at h ⊢
  exact opd_after r (takes k) p h
theorem Cut.after {l : List Int} {p : Nat} (h : (opd false l)[p]? = some true) : Cut l (p + 1) :=
 ⟨opd_after l false p h, by have := (List.getElem?_eq_some_iff.1 h).1; rw [opd_length] at this; omega⟩
theorem stepW_j (h : DcOk o dc (b :: r)) (hj : JOk dc) (hp : PlOk es dc) (hq : Qt s) (h0 : (stepW es dc b r kn s).1 = 0) : JOk (stepW es dc b r kn s).2.1 := by
 unfold stepW at h0 ⊢
 split
 ·rename_i x hx
  have hm := (last_in (Nat.le_refl _) hx).1
  cases hv : x.var with
  | true => exact hj.two h.s (by unfold PE.op; rw [hv]; rfl) (Or.inl (by unfold PE.op; rw [hv]; rfl))
  | false =>
   refine hj.two h.s (by unfold PE.op; rw [hv]; rfl) (Or.inr ?_)
   obtain ⟨p, e1, e2, e3⟩ := hp x hm hv
   rw [e1]
   exact Cut.app h.s ⟨e2, e3⟩ _
 ·split
  ·exact hj
  ·rename_i k hk
   split
   ·exact hj
   ·exact hj.one h.s (hq k hk).1
theorem step_j (h : DcOk o dc st) (hj : JOk dc) (hp : PlOk es dc) (hq : Qt s) (h0 : (stepP es nt tk dc st kn s).1 = 0) : JOk (stepP es nt tk dc st kn s).2.1 := by
 unfold stepP at h0 ⊢
 cases st with
 | nil => exact hj
 | cons b r =>
  simp only at h0 ⊢
  by_cases c1 : (s.toList == []) = true
  ·rw [if_pos c1]; exact hj
  rw [if_neg c1] at h0 ⊢
  by_cases c2 : (s.toList == [58]) = true
  ·rw [if_pos c2]; exact hj
  rw [if_neg c2] at h0 ⊢
  by_cases c3 : (s.toList == [118, 97, 114, 105, 97, 98, 108, 101]) = true
  ·rw [if_pos c3]; exact hj
  rw [if_neg c3] at h0 ⊢
  by_cases c4 : (s.toList == [59]) = true
  ·rw [if_pos c4]
   by_cases d : b.opener = 34
   ·rw [if_pos d]; exact hj.one h.s rfl
   ·rw [if_neg d]; exact hj
  rw [if_neg c4] at h0 ⊢
  by_cases c5 : (s.toList == [105, 102]) = true
  ·rw [if_pos c5]; exact hj.two h.s rfl (Or.inr (Cut.zero _))
  rw [if_neg c5] at h0 ⊢
  by_cases c6 : (s.toList == [101, 108, 115, 101]) = true
  ·rw [if_pos c6] at h0 ⊢
   by_cases d : b.opener = 29
   ·rw [if_pos d] at h0 ⊢
    cases r with
    | nil => exact hj
    | cons c r =>
     obtain ⟨a1, a2⟩ := h.two (k := 30) (v := 0) rfl
     have hb := a1.h b (List.mem_cons_self ..) (by rw [d]; decide)
     have hj2 : JOk (dc ++ [30, 0]) := hj.two h.s rfl (Or.inr (Cut.zero _))
     refine JOk.set hj2 hb ?_
     have := Cut.end (dc ++ [30, 0])
     rw [show ((dc.length : Int) + 2).toNat = (dc ++ [30, 0]).length by simp; omega]
     exact this
   ·rw [if_neg d]; exact hj
  rw [if_neg c6] at h0 ⊢
  by_cases c7 : (s.toList == [116, 104, 101, 110]) = true
  ·rw [if_pos c7] at h0 ⊢
   by_cases d : b.opener = 29 ∨ b.opener = 30
   ·rw [if_pos d] at h0 ⊢
    by_cases d2 : b.does.net = b.other.net
    ·rw [if_pos d2] at h0 ⊢
     cases r with
     | nil => exact hj
     | cons c r =>
      have hb := h.h b (List.mem_cons_self ..) (by rcases d with d | d <;> rw [d] <;> decide)
      exact JOk.set hj hb (by rw [Int.toNat_natCast]; exact Cut.end dc)
    ·rw [if_neg d2]; exact hj
   ·rw [if_neg d]; exact hj
  rw [if_neg c7] at h0 ⊢
  by_cases c8 : (s.toList == [100, 111]) = true
  ·rw [if_pos c8] at h0 ⊢
   by_cases d : b.numbers < 2
   ·rw [if_pos d]; exact hj
   rw [if_neg d] at h0 ⊢
   by_cases d2 : 1000 < max 0 (b.a0 - b.a1)
   ·rw [if_pos d2]; exact hj
   rw [if_neg d2] at h0 ⊢
   exact hj.two h.s rfl (Or.inr (Cut.zero _))
  rw [if_neg c8] at h0 ⊢
  by_cases c9 : (s.toList == [108, 111, 111, 112]) = true
  ·rw [if_pos c9] at h0 ⊢
   by_cases d : b.opener = 31
   ·rw [if_pos d] at h0 ⊢
    by_cases d2 : b.does.net = 0
    ·rw [if_pos d2] at h0 ⊢
     cases r with
     | nil => exact hj
     | cons c r =>
      have hb0 := h.h b (List.mem_cons_self ..) (by rw [d]; decide)
      obtain ⟨a1, a2⟩ := h.two (k := 32) (v := (b.hole.toNat : Int) + 1) rfl
      have hb := a1.h b (List.mem_cons_self ..) (by rw [d]; decide)
      have hj2 : JOk (dc ++ [32, (b.hole.toNat : Int) + 1]) := hj.two h.s rfl (Or.inr (by
       rw [show ((b.hole.toNat : Int) + 1).toNat = b.hole.toNat + 1 by omega]
       exact (Cut.after hb0).app h.s _))
      refine JOk.set hj2 hb ?_
      have := Cut.end (dc ++ [32, (b.hole.toNat : Int) + 1])
      rw [show ((dc.length : Int) + 2).toNat = (dc ++ [32, (b.hole.toNat : Int) + 1]).length by simp; omega]
      exact this
    ·rw [if_neg d2]; exact hj
   ·rw [if_neg d]; exact hj
  rw [if_neg c9] at h0 ⊢
  by_cases c10 : (numP s).2 = true
  ·rw [if_pos c10]
   exact hj.two h.s rfl (Or.inl rfl)
  rw [if_neg c10] at h0 ⊢
  exact stepW_j h hj hp hq h0
theorem def_j {code : List Int} (hp : PlOk es code) : ∀ (f : Nat) (tk : Int) (dc : List Int) (st : List PB) (kn : Inf) (a : Nat), AllQ s a → DcOk (opd false code) dc st → JOk dc → defP es nt s f tk dc st kn a = .inl X → JOk X.1
 | 0, tk, dc, st, kn, a, hq, hd, hj, h => by rw [defP] at h; cases h
 | f + 1, tk, dc, [], kn, a, hq, hd, hj, h => by
  rw [defP] at h
  cases h
  exact hj
 | f + 1, tk, dc, b :: r, kn, a, hq, hd, hj, h => by
  rw [defP] at h
  split at h
  ·rename_i h0
   obtain ⟨e, e1, e2⟩ := hd.p
   exact def_j hp f _ _ _ _ _ hq.tail (step_dc hd hq.head h0) (step_j hd hj (hp.more e1 e2) hq.head h0) h
  ·cases h
theorem load_j : ∀ (f a : Nat) (es : List PE) (nv nt : Int) (code : List Int), AllQ s a → CqOk es code → JOk code → JOk (loadP s f a es nv nt code).2.2.2.2
 | 0, a, es, nv, nt, code, hq, hc, hj => hj
 | f + 1, a, es, nv, nt, code, hq, hc, hj => by
  rw [loadP]
  split
  ·exact hj
  split
  ·have hv : CqOk (varP es nv s (nx s a).2.2).2.1 code := by
    unfold varP
    split
    ·split
     ·exact hc
     ·refine ⟨hc.1, fun x hx hv => ?_⟩
      rcases List.mem_append.1 hx with hx | hx
      ·exact hc.2 x hx hv
      ·rw [List.mem_singleton.1 hx] at hv
       cases hv
    ·exact hc
   split
   ·exact load_j f _ _ _ _ _ hq.tail.tail hv hj
   ·exact hj
  split
  ·have hw : JOk (wordP es nt code s (nx s a).2.2).2.2.2.1 ∧ CqOk (wordP es nt code s (nx s a).2.2).2.1 (wordP es nt code s (nx s a).2.2).2.2.2.1 ∧ ((wordP es nt code s (nx s a).2.2).1.1 = 0 → AllQ s (wordP es nt code s (nx s a).2.2).2.2.2.2) := by
    unfold wordP
    split
    ·rename_i hr
     cases hd : defP es nt s (s.size + 2) 2 code [PB.first] Inf.zero (nx s (nx s a).2.2).2.2 with
     | inr q =>
      obtain ⟨E, P⟩ := q
      exact ⟨hj, hc, fun h0 => absurd h0 (def_err hd)⟩
     | inl q =>
      obtain ⟨dc, kn, tk, a'⟩ := q
      have hD : DcOk (opd false code) code [PB.first] := ⟨hc.1, ⟨[], by simp, by simp⟩, fun b hb ho => by
       rw [List.mem_singleton.1 hb] at ho
       exact absurd rfl ho⟩
      obtain ⟨h1, h2, e, h3, h4⟩ := def_dc _ _ _ _ _ _ hq.tail.tail hD hd
      have h5 := def_j hc.2 _ _ _ _ _ _ hq.tail.tail hD hj hd
      simp only at h1 h2 h3 h5
      have hm := hc.2.more h3 h4
      refine ⟨h5, ⟨h1, fun x hx hv => ?_⟩, fun _ => h2⟩
      rcases List.mem_append.1 hx with hx | hx
      ·exact hm x hx hv
      ·rw [List.mem_singleton.1 hx]
       have hl : dc.length = code.length + e.length := by rw [← opd_length dc false, ← opd_length code false, h3, List.length_append]
       refine ⟨code.length, rfl, ?_, by show code.length ≤ dc.length; omega⟩
       rw [h3, List.getElem?_append_right (by rw [opd_length]; omega), opd_length, Nat.sub_self, ← List.head?_eq_getElem?]
       exact h4
    ·rename_i hr
     exact ⟨hj, hc, fun h0 => absurd h0 hr⟩
   split
   ·rename_i h0
    exact load_j f _ _ _ _ _ (hw.2.2 h0) hw.2.1 hw.1
   ·exact hw.1
  ·exact hj
theorem loadR_j {nv : Int} {code : List Int} {ts : List (List UInt8)} (hs : Sfx s 0 ts) (hq : ∀ t ∈ ts, tokB t = true ∧ Qt ⟨t.toArray⟩) (hc : CqOk es code) (hj : JOk code) : JOk (loadR s es nv nt code).2.2.2.2 := by
 unfold loadR
 split
 ·exact hj
 ·exact load_j _ _ _ _ _ _ (fun n => sfx_allQ n hs hq) hc hj
end
structure QCode (es : List PE) (code : List Int) : Prop where
 c : CqOk es code
 j : JOk code
theorem made_qcode {s : ByteArray} (h : TextG true .out s) : QCode (loadR s [] 0 0 []).2.1 (loadR s [] 0 0 []).2.2.2.2 := by
 obtain ⟨L, h1, h2⟩ := h.fwd
 exact ⟨made_quiet h, loadR_j h2 h1.quiet ⟨rfl, fun x hx => by cases hx⟩ (fun p k v _ hk => by simp at hk)⟩
theorem task_qcode {c d k : UInt8} (hc : rng c) (hd : rng d) (hk : rng k) {s : ByteArray} (hs : s.data.toList = taskT c d k) {es : List PE} {nv nt : Int} {code : List Int} (hq : QCode es code) : QCode (loadR s es nv nt code).2.1 (loadR s es nv nt code).2.2.2.2 := by
 have hS : Sfx s 0 ([[58], [116, c], [d], [119, k], [100, 114, 111, 112], [59]]) := ⟨0, [32], Or.inl rfl, Nat.zero_le _, Or.inr rfl, by rw [List.drop_zero, hs]; rfl⟩
 refine ⟨task_quiet hc hd hk hs hq.c, loadR_j hS (fun t ht => ?_) hq.c hq.j⟩
 simp only [List.mem_cons, List.not_mem_nil, or_false] at ht
 rcases ht with rfl | rfl | rfl | rfl | rfl | rfl
 ·exact tq (by decide +kernel)
 ·exact tq_name hc (by simp)
 ·exact tq_digit hd
 ·exact tq_name hk (by simp)
 ·exact tq (by decide +kernel)
 ·exact tq (by decide +kernel)
def CutM (code : List Int) (m : MS) : Prop := Cut code m.at_ ∧ ∀ c ∈ m.calls, Cut code c.toNat
section
variable {es : List PE} {code : List Int} {m : MS} {u : MW} {k : Nat}
theorem cut_quiet (hq : QCode es code) (h : CutM code m) (hk : code[m.at_]? = some (k : Int)) : quietK k := by
 have := quietC_K (Cut.next hq.c.1 h.1 hk).1 (by omega)
 simpa using this
theorem step_cut (hq : QCode es code) (h : CutM code m) (hk : code[m.at_]? = some (k : Int)) (h35 : k < 35) : CutM code (stepM code m u).2.1 := by
 obtain ⟨n1, n2, n3⟩ := Cut.next hq.c.1 h.1 hk
 have hg : (code.getD m.at_ 0).toNat = k := by rw [List.getD_eq_getElem?_getD, hk]; simp
 obtain ⟨st, lo, ca, at_⟩ := m
 simp only at hk hg n2 n3
 unfold stepM
 simp only [hg]
 split
 ·exact h
 have h1 : takes (k : Int) = false → Cut code (at_ + 1) := n2
 have h2 : takes (k : Int) = true → Cut code (at_ + 2) := fun ht => (n3 ht).1
 have hv : takes (k : Int) = true → k ≠ 28 → Cut code (code.getD (at_ + 1) 0).toNat := fun ht h8 => by
  have hl := (n3 ht).2
  refine hq.j at_ k _ h.1 hk ht (by omega) ?_
  rw [List.getD_eq_getElem?_getD, List.getElem?_eq_getElem hl]; rfl
 have ht1 : k < 28 ∨ k = 34 → takes (k : Int) = false := fun e => by
  unfold takes
  rw [Bool.and_eq_false_iff]
  rcases e with e | e
  ·exact Or.inl (decide_eq_false (by omega))
  ·exact Or.inr (decide_eq_false (by omega))
 have ht2 : 28 ≤ k → k ≤ 33 → takes (k : Int) = true := fun a b => by
  unfold takes
  rw [Bool.and_eq_true, decide_eq_true_eq, decide_eq_true_eq]
  omega
 have hc := h.2
 unfold execM
 simp only
 by_cases c1 : k ≤ 12
 ·rw [if_pos c1]
  rcases st with _ | ⟨a, _ | ⟨b, s⟩⟩ <;> first | exact h | exact ⟨h1 (ht1 (by omega)), hc⟩
 rw [if_neg c1]
 by_cases c2 : k ≤ 15
 ·rw [if_pos c2]
  rcases st with _ | ⟨a, s⟩ <;> first | exact h | exact ⟨h1 (ht1 (by omega)), hc⟩
 rw [if_neg c2]
 by_cases c3 : k ≤ 22
 ·rw [if_pos c3]; exact ⟨h1 (ht1 (by omega)), hc⟩
 rw [if_neg c3]
 by_cases c4 : k = 23
 ·rw [if_pos c4]
  rcases st with _ | ⟨a, s⟩ <;> first | exact h | exact ⟨h1 (ht1 (by omega)), hc⟩
 rw [if_neg c4]
 by_cases c5 : k = 24
 ·rw [if_pos c5]
  rcases st with _ | ⟨a, _ | ⟨b, s⟩⟩ <;> first | exact h | exact ⟨h1 (ht1 (by omega)), hc⟩
 rw [if_neg c5]
 by_cases c6 : k = 25
 ·rw [if_pos c6]; exact ⟨h1 (ht1 (by omega)), hc⟩
 rw [if_neg c6]
 by_cases c7 : k = 26
 ·rw [if_pos c7]
  rcases st with _ | ⟨a, s⟩ <;> first | exact h | exact ⟨h1 (ht1 (by omega)), hc⟩
 rw [if_neg c7]
 by_cases c8 : k = 27
 ·rw [if_pos c8]; exact ⟨h1 (ht1 (by omega)), hc⟩
 rw [if_neg c8]
 by_cases c9 : k = 28
 ·rw [if_pos c9]; exact ⟨h2 (ht2 (by omega) (by omega)), hc⟩
 rw [if_neg c9]
 by_cases c10 : k = 29
 ·rw [if_pos c10]
  rcases st with _ | ⟨a, s⟩
  ·exact h
  ·refine ⟨?_, hc⟩
   simp only
   split
   ·exact hv (ht2 (by omega) (by omega)) (by omega)
   ·exact h2 (ht2 (by omega) (by omega))
 rw [if_neg c10]
 by_cases c11 : k = 30
 ·rw [if_pos c11]; exact ⟨hv (ht2 (by omega) (by omega)) (by omega), hc⟩
 rw [if_neg c11]
 by_cases c12 : k = 31
 ·rw [if_pos c12]
  rcases st with _ | ⟨a, _ | ⟨b, s⟩⟩
  ·exact h
  ·exact h
  ·simp only
   split
   ·exact ⟨h2 (ht2 (by omega) (by omega)), hc⟩
   ·exact ⟨hv (ht2 (by omega) (by omega)) (by omega), hc⟩
 rw [if_neg c12]
 by_cases c13 : k = 32
 ·rw [if_pos c13]
  simp only
  split
  ·exact ⟨hv (ht2 (by omega) (by omega)) (by omega), hc⟩
  ·exact ⟨h2 (ht2 (by omega) (by omega)), hc⟩
 rw [if_neg c13]
 by_cases c14 : k = 33
 ·rw [if_pos c14]
  refine ⟨hv (ht2 (by omega) (by omega)) (by omega), fun c hcc => ?_⟩
  rcases List.mem_append.1 hcc with e | e
  ·exact hc c e
  ·rw [List.mem_singleton.1 e, Int.toNat_natCast]
   exact h2 (ht2 (by omega) (by omega))
 rw [if_neg c14]
 by_cases c15 : ca = []
 ·rw [if_pos c15]
  exact ⟨h1 (ht1 (by omega)), hc⟩
 ·rw [if_neg c15]
  refine ⟨?_, fun c hcc => hc c (List.dropLast_subset ca hcc)⟩
  simp only
  rw [List.getLastD_eq_getLast?, List.getLast?_eq_some_getLast c15]
  exact hc _ (List.getLast_mem c15)
end
def xS (code : List Int) (m0 : MS) : Nat → MS
 | 0 => m0
 | k + 1 => (stepM code (xS code m0 k) noMW).2.1
def xO (code : List Int) (m0 : MS) : Nat → List Int
 | 0 => []
 | k + 1 => xO code m0 k ++ (stepM code (xS code m0 k) noMW).2.2.outs
def xE (code : List Int) (m0 : MS) (k : Nat) : Int := (stepM code (xS code m0 k) noMW).1
structure XRun (code : List Int) (m0 : MS) (N : Nat) : Prop where
 q : ∀ j, j ≤ N → quietK (code.getD (xS code m0 j).at_ 0).toNat
 go : ∀ j, j < N → xE code m0 j = 4
 fin : xE code m0 N = 0
section
variable {code : List Int} {m0 : MS} {N : Nat} {u : MW}
theorem put_put (u : MW) (a b : List Int) : (u.put a).put b = u.put (a ++ b) := by simp [MW.put]
theorem put_nil (u : MW) : u.put [] = u := by simp [MW.put]
theorem XRun.step (h : XRun code m0 N) {j : Nat} (hj : j ≤ N) (u : MW) : stepM code (xS code m0 j) u = (xE code m0 j, xS code m0 (j + 1), u.put (stepM code (xS code m0 j) noMW).2.2.outs) := step_quiet (h.q j hj) u
theorem XRun.run (h : XRun code m0 N) : ∀ (d j f n : Nat) (u : MW), j + d = N → d < f → runM code f n (xS code m0 j) (u.put (xO code m0 j)) = (n + d + 1, 0, xS code m0 (N + 1), u.put (xO code m0 (N + 1)))
 | 0, j, f, n, u, hj, hf => by
  obtain rfl : j = N := by omega
  cases f with
  | zero => omega
  | succ f =>
   rw [runM, h.step (Nat.le_refl _), h.fin]
   simp only
   rw [if_neg (by decide), put_put]
   rfl
 | d + 1, j, f, n, u, hj, hf => by
  cases f with
  | zero => omega
  | succ f =>
   rw [runM, h.step (by omega), h.go j (by omega)]
   simp only
   rw [if_pos trivial, put_put]
   have := h.run d (j + 1) f (n + 1) u (by omega) (by omega)
   rw [show n + (d + 1) + 1 = n + 1 + d + 1 by omega]
   exact this
theorem XRun.runs (h : XRun code m0 N) {f : Nat} (hf : N < f) (u : MW) : runM code f 0 m0 u = (N + 1, 0, xS code m0 (N + 1), u.put (xO code m0 (N + 1))) := by
 have := h.run N 0 f 0 u (by omega) hf
 rw [show xO code m0 0 = [] from rfl, put_nil] at this
 rw [Nat.zero_add] at this
 exact this
end
section
variable {es : List PE} {code : List Int} {ws : List RW} {m0 : MS} {N k : Nat} {s : List Int} {n : Nat}
theorem hind_not3 (h : quietK k) : hindP k s n ≠ 3 := by
 obtain ⟨h1, h2, h3⟩ := h
 unfold hindP
 split
 ·decide
 ·rw [if_neg (fun e => by rcases e.1 with e | e <;> contradiction)]
  split <;> decide
theorem ite_end {c : Prop} [Decidable c] {x y : Int × MS × MW} (hx : x.1 = 4 ∨ x.1 = 0) (hy : y.1 = 4 ∨ y.1 = 0) : (if c then x else y).1 = 4 ∨ (if c then x else y).1 = 0 := by
 split
 ·exact hx
 ·exact hy
theorem exec_end (k : Nat) (v : Int) (m : MS) (u : MW) : (execM k v m u).1 = 4 ∨ (execM k v m u).1 = 0 := by
 obtain ⟨st, lo, ca, a0⟩ := m
 unfold execM
 rcases st with _ | ⟨a, _ | ⟨b, s⟩⟩
 all_goals
  repeat' (first | exact Or.inl rfl | exact Or.inr rfl | refine ite_end ?_ ?_)
theorem step_not3 {m : MS} {u : MW} (h : quietK (code.getD m.at_ 0).toNat) : (stepM code m u).1 ≠ 3 := by
 unfold stepM
 split
 ·exact hind_not3 h
 ·rcases exec_end (code.getD m.at_ 0).toNat (code.getD (m.at_ + 1) 0) m u with e | e <;> rw [e] <;> decide
theorem xS_head (m0 : MS) : ∀ j, xS code m0 (j + 1) = xS code (stepM code m0 noMW).2.1 j
 | 0 => rfl
 | j + 1 => by rw [xS, xS_head m0 j]; rfl
theorem XRun.cons (hq : quietK (code.getD m0.at_ 0).toNat) (h4 : (stepM code m0 noMW).1 = 4) (h : XRun code (stepM code m0 noMW).2.1 N) : XRun code m0 (N + 1) := by
 refine ⟨fun j hj => ?_, fun j hj => ?_, ?_⟩
 ·cases j with
  | zero => exact hq
  | succ j => rw [xS_head]; exact h.q j (by omega)
 ·cases j with
  | zero => exact h4
  | succ j =>
   unfold xE
   rw [xS_head]; exact h.go j (by omega)
 ·unfold xE
  rw [xS_head]; exact h.fin
theorem xrun_of (hc : Coded es code ws) (ha : Alike es ws) (hq : QCode es code) : ∀ (N n : Nat) (fs : List Fr) (m : MS), Sim es code n fs m noMW → Left ws N fs m.stk → CutM code m → ∃ k, k < N ∧ XRun code m k
 | 0, _, _, _, _, h, _ => h.elim
 | N + 1, n, fs, m, hS, hl, hm => by
  obtain ⟨d, hr⟩ := hS.rel
  obtain ⟨k, hk, hk2⟩ := (conc_step (u := noMW) hc ha hr m rfl rfl rfl hS.wl).op
  have hqk : quietK (code.getD m.at_ 0).toNat := by
   rw [List.getD_eq_getElem?_getD, hk2]
   exact cut_quiet hq hm hk2
  obtain ⟨s1, s2, s3, s4⟩ := hS.step hc ha
  rcases hl noMW ⟨(fun a h => by cases h), (fun a h => by cases h)⟩ with e | e | ⟨e, hl'⟩
  ·refine ⟨0, by omega, fun j hj => ?_, fun j hj => by omega, ?_⟩
   ·obtain rfl : j = 0 := by omega
    exact hqk
   ·exact s1.trans e
  ·exact absurd (s1.trans e) (step_not3 hqk)
  ·have hS' := s4 e
   rw [← s2] at hl'
   obtain ⟨k, hk, hx⟩ := xrun_of hc ha hq N (n + 1) _ (stepM code m noMW).2.1 ⟨hS'.rel, ⟨hS'.wl.s, (fun a h => by cases h), (fun a h => by cases h), hS'.wl.l⟩, hS'.l1, hS'.l2, Nat.zero_le _, hS'.l4⟩ hl' (step_cut hq hm hk2 hk)
   exact ⟨k + 1, by omega, hx.cons hqk (s1.trans e)⟩
theorem xO_le (m0 : MS) : ∀ (j d : Nat), xO code m0 j <+: xO code m0 (j + d)
 | j, 0 => List.prefix_refl _
 | j, d + 1 => (xO_le m0 j d).trans (List.prefix_append _ _)
end
attribute [local go_sem] quietG
end Go.Proofs.YtcphhbofjkenaaaGreatDoor
namespace Go.Proofs.YtcphhbofjkenaaaGreatDoor
open Go Go.RowKit
set_option linter.unusedVariables false
set_option linter.unusedSimpArgs false
attribute [local go_sem] quietG
end Go.Proofs.YtcphhbofjkenaaaGreatDoor
