import Derived.BigQuiet
import Derived.StillTailTactics
import Derived.Test.YtcphhbofjkenaaaGreatDoorK03
import Derived.Test.YtcphhbofjkenaaaGreatDoorK11
import Derived.Test.YtcphhbofjkenaaaGreatDoorK12
import Derived.Test.YtcphhbofjkenaaaGreatDoorK24
import Derived.Test.YtcphhbofjkenaaaGreatDoorK26
import Derived.Test.YtcphhbofjkenaaaGreatDoorK28
import Derived.Test.YtcphhbofjkenaaaGreatDoorK30

namespace Go.Proofs.YtcphhbofjkenaaaGreatDoor
open Go Go.RowKit
set_option linter.unusedVariables false
set_option linter.unusedSimpArgs false

def pColon (ws : List RW) (k : Int) (toks : List Tk) (fin : Int) (f I : Nat) : (ByteArray × List AI × Nat) ⊕ (Int × Int) :=
  if nameS (tokS toks I) = false then .inr (4, plc toks fin I)
  else if 40 ≤ ws.length then .inr (8, plc toks fin I)
  else match pItems ws toks fin f [tSemi] 0 [] (I + 1) with
    | .inr E => .inr E
    | .inl (l, _, I') =>
      if 1000000000 < (infL l).steps + 1 then .inr (7, plc toks fin (I' - 1))
      else if 400 < k + I' - ((I : Int) - 1) then .inr (8, plc toks fin (I' - 1))
      else .inl (tokS toks I, l, I')

def wInf (l : List AI) : Inf := { infL l with steps := (infL l).steps + 1 }

theorem ref_eq {es : List PE} {ws : List RW} (hA : Alike es ws) (hl : es.length ≤ 40) {s : ByteArray} {toks : List Tk} {I a : Nat} (hat : At s toks I a) (hI : I ≤ toks.length) :
    refP es (nx s a).1 = if nameS (tokS toks I) = false then 4 else if 40 ≤ ws.length then 8 else 0 := by
  unfold refP
  rw [hat.name hI]
  have := hA.len
  cases nameS (tokS toks I) with
  | false => simp
  | true =>
    simp only [if_true, Bool.true_eq_false, if_false]
    by_cases h : 40 ≤ ws.length
    · rw [if_pos h, if_pos (by omega)]
    · rw [if_neg h, if_neg (by omega)]

theorem Alike.push {es : List PE} {ws : List RW} (h : Alike es ws) {x : PE} {y : RW} (hn : x.name = y.name) (hu : (x.var = true → y.var = x.place ∧ 0 ≤ y.var) ∧ (x.var = false → y.var = -1 ∧ x.inf = y.inf ∧ y.inf.Nn ∧ 1 ≤ y.inf.steps ∧ y.inf.steps ≤ 1000000000)) : Alike (es ++ [x]) (ws ++ [y]) := by
  refine ⟨by simp [h.names, hn], fun k a b h1 h2 => ?_⟩
  have hl := h.len
  by_cases hk : k < es.length
  · rw [List.getElem?_append_left hk] at h1
    rw [List.getElem?_append_left (by omega)] at h2
    exact h.use k a b h1 h2
  · rw [List.getElem?_append_right (by omega)] at h1
    rw [List.getElem?_append_right (by omega)] at h2
    rw [← hl] at h2
    by_cases e : k - es.length = 0
    · rw [e] at h1 h2; simp at h1 h2; subst h1; subst h2; exact hu
    · rw [List.getElem?_eq_none (by simp; omega)] at h1; cases h1

theorem name_some {t : ByteArray} (h : nameS t = true) : t.toList ≠ [] := by
  intro e
  have : t = ⟨#[]⟩ := (ext_list t []).1 (by simp [e])
  subst this
  exact absurd h (by decide +kernel)

theorem pItems_E0 (ws : List RW) (toks : List Tk) (fin : Int) : ∀ (f : Nat) (ends : List ByteArray) (loops : Int) (acc : List AI) (I : Nat) (E : Int × Int), pItems ws toks fin f ends loops acc I = .inr E → E.1 ≠ 0 := by
  intro f
  induction f with
  | zero => intro ends loops acc I E h; simp [pItems] at h; subst h; decide
  | succ f ih =>
    intro ends loops acc I E h
    rw [pItems] at h
    split at h
    · cases h
    split at h
    · cases h; simp
    split at h
    · exact ih _ _ _ _ _ h
    split at h
    · split at h
      · rename_i r hr; cases h; exact ih _ _ _ _ _ hr
      · split at h
        · split at h
          · rename_i r hr; cases h; exact ih _ _ _ _ _ hr
          · split at h
            · exact ih _ _ _ _ _ h
            · cases h; simp
        · split at h
          · exact ih _ _ _ _ _ h
          · cases h; simp
    split at h
    · split at h
      · cases h; simp
      · split at h
        · cases h; simp
        · split at h
          · rename_i r hr; cases h; exact ih _ _ _ _ _ hr
          · split at h
            · exact ih _ _ _ _ _ h
            · cases h; simp
    split at h
    · exact ih _ _ _ _ _ h
    · rename_i hw; cases h; exact hw

theorem toks_len (s : ByteArray) : ∀ (f i : Nat), (toksF s f i).length ≤ f
  | 0, i => by simp [toksF]
  | f + 1, i => by
    unfold toksF
    split
    · split
      · have := toks_len s f (i + 1); omega
      · split
        · have := toks_len s f (scan eol s (scan blk s i)); omega
        · have := toks_len s f (scan blk s i); simp; omega
    · simp

theorem colon_eq {es : List PE} {ws : List RW} (hA : Alike es ws) {nv nt : Int} {code : List Int} (hL : LInv es nv nt code) {s : ByteArray} {toks : List Tk} (htk : toks.length ≤ s.size) {I a : Nat} (hat : At s toks I a) (hI : I ≤ toks.length) (hI1 : 1 ≤ I) (f : Nat) (hf : toks.length + 1 ≤ f) :
    match pColon ws nt toks s.size f I with
    | .inr E => E.1 ≠ 0 ∧ wordP es nt code s a = (E, es, nt, code, 0)
    | .inl (t, l, I') => I < I' ∧ I' ≤ toks.length ∧ t = tokS toks I ∧ (infL l).Nn ∧ (infL l).steps + 1 ≤ 1000000000 ∧ pItems ws toks s.size f [tSemi] 0 [] (I + 1) = .inl (l, tokS toks (I' - 1), I') ∧ ∃ dc a', wordP es nt code s a = ((0, 0), es ++ [⟨t, false, code.length, wInf l⟩], nt + (I' - ((I : Int) - 1)), dc, a') ∧ At s toks I' a' ∧ (∃ q, CList es dc false (trees l) code.length q ∧ dc[q]? = some 34) ∧ ∀ i, i < code.length → dc[i]? = code[i]? := by
  unfold pColon wordP
  rw [ref_eq hA hL.l hat hI]
  obtain ⟨n1, n2, n3⟩ := hat.next hI
  cases hnm : nameS (tokS toks I) with
  | false =>
    simp only [if_true]
    exact ⟨by simp, by rw [if_neg (by decide), n2]⟩
  | true =>
    simp only [Bool.true_eq_false, if_false]
    by_cases hfull : 40 ≤ ws.length
    · rw [if_pos hfull, if_pos hfull, if_neg (by decide), n2]
      exact ⟨by simp, rfl⟩
    · rw [if_neg hfull, if_neg hfull, if_pos rfl]
      obtain ⟨hlt, hat1⟩ := n3.resolve_left (name_some hnm)
      have hB : BR PB.first [] 0 := ⟨rfl, Inf.Nn.zero, rfl, rfl⟩
      have H := def_items hA nt s toks f [tSemi] 0 [] (I + 1) (s.size + 2) 2 code PB.first [] Inf.zero (nx s a).2.2 (by omega) (by omega) (by omega) hat1 hB (by omega) (Or.inr (Or.inr (Or.inr rfl))) rfl
      cases hp : pItems ws toks s.size f [tSemi] 0 [] (I + 1) with
      | inr E =>
        rw [hp] at H
        have hE := pItems_E0 _ _ _ _ _ _ _ _ _ hp
        have H' : defP es nt s (s.size + 2) 2 code [PB.first] Inf.zero (nx s a).2.2 = .inr E := H
        simp only [H']
        exact ⟨hE, trivial⟩
      | inl x =>
        obtain ⟨l, t', I'⟩ := x
        rw [hp] at H
        obtain ⟨a1, a2, a3, a4, g1, dc1, b1, p1, a5, a6, a7, a8, a9, a10⟩ := H
        obtain ⟨⟨c1, c2⟩, c3⟩ := a10 code.length (CO.nil es code 0)
        obtain ⟨g1, rfl⟩ : ∃ g0, g1 = g0 + 1 + 1 := ⟨g1 - 2, by omega⟩
        obtain ⟨m1, m2, m3⟩ := a7.next (by omega)
        rw [← a4] at m1
        have hta : t'.toList = [59] := by
          exact end_semi a3
        have hta' : (nx s p1).1.toList = [59] := by rw [m1]; exact hta
        have hop1 : b1.opener = 34 := a8.op
        have hdoes : b1.does = infL l := a9.does
        have hmore : b1.does.then (opInf 34) = (infL l).more := by rw [op_none.2.2.2, hdoes]; exact then_one a9.nn
        have m4 : At s toks I' (nx s p1).2.2 := by
          rcases m3 with m3 | ⟨_, m3⟩
          · rw [← a4, hta] at m3; cases m3
          · rw [show I' - 1 + 1 = I' by omega] at m3; exact m3
        have htk2 : (2 : Int) + ((I' - 1 - (I + 1) : Nat) : Int) + 1 = I' - ((I : Int) - 1) := by omega
        have hs : stepP es nt ((2 : Int) + ((I' - 1 - (I + 1) : Nat) : Int) + 1) dc1 [b1] Inf.zero (nx s p1).1 = (endErr (infL l).more.steps nt (I' - ((I : Int) - 1)), dc1 ++ [34], [], (infL l).more) := by
          rw [← htk2, ← hmore]
          simp [stepP, hta', hop1]
        have hst : (infL l).more.steps = min ((infL l).steps + 1) 1000000001 := rfl
        simp only
        by_cases h7 : 1000000000 < (infL l).steps + 1
        · rw [if_pos h7]
          have he : endErr (infL l).more.steps nt (I' - ((I : Int) - 1)) = 7 := by unfold endErr; rw [if_pos (by omega)]
          rw [a5, defP_err1 (E := 7) (by rw [hs, he]) (by decide), m2]
          exact ⟨by simp, rfl⟩
        · rw [if_neg h7]
          by_cases h8 : 400 < nt + I' - ((I : Int) - 1)
          · rw [if_pos h8]
            have he : endErr (infL l).more.steps nt (I' - ((I : Int) - 1)) = 8 := by unfold endErr; rw [if_neg (by omega), if_pos (by omega)]
            rw [a5, defP_err1 (E := 8) (by rw [hs, he]) (by decide), m2]
            exact ⟨by simp, rfl⟩
          · rw [if_neg h8]
            have he : endErr (infL l).more.steps nt (I' - ((I : Int) - 1)) = 0 := by unfold endErr; rw [if_neg (by omega), if_neg (by omega)]
            rw [he] at hs
            have hw : (infL l).more = wInf l := by
              refine Inf.ext' rfl rfl rfl ?_ rfl
              show min ((infL l).steps + 1) 1000000001 = (infL l).steps + 1
              omega
            rw [a5, defP_ok1 hs, htk2, hw]
            refine ⟨by omega, a2, rfl, a9.nn, by omega, by rw [a4], dc1 ++ [34], (nx s p1).2.2, ?_, m4, ⟨dc1.length, c2.stable c1 (fun _ _ => id) (fun i _ hi => List.getElem?_append_left hi), by simp⟩, fun i hi => (List.getElem?_append_left (by omega)).trans (c3 i hi)⟩
            simp [defP, n1]

structure Coded (es : List PE) (code : List Int) (ws : List RW) : Prop where
  w : ∀ (k : Nat) (x : PE) (y : RW), es[k]? = some x → ws[k]? = some y → x.var = false → ∃ p q : Nat, x.place = p ∧ p ≤ code.length ∧ CList es code false y.its p q ∧ code[q]? = some 34
  v : ∀ (k : Nat) (x : PE), es[k]? = some x → x.var = true → 0 ≤ x.place ∧ x.place ≤ 16
structure Alk (es : List PE) (code : List Int) (ws : List RW) : Prop extends Alike es ws where
  coded : Coded es code ws

theorem Coded.nil : Coded [] [] [] := ⟨fun k x y h => by simp at h, fun k x h => by simp at h⟩
theorem Coded.push {es : List PE} {code code' : List Int} {ws : List RW} (h : Coded es code ws) (hl : es.length = ws.length) {x : PE} {y : RW} (hc : ∀ i, i < code.length → code'[i]? = code[i]?) (hle : code.length ≤ code'.length)
    (h1 : x.var = false → ∃ p q : Nat, x.place = p ∧ p ≤ code'.length ∧ CList es code' false y.its p q ∧ code'[q]? = some 34) (h2 : x.var = true → 0 ≤ x.place ∧ x.place ≤ 16) : Coded (es ++ [x]) code' (ws ++ [y]) := by
  have he : ∀ (k : Nat) (z : PE), es[k]? = some z → (es ++ [x])[k]? = some z := fun k z hz => by rw [List.getElem?_append_left (List.getElem?_eq_some_iff.1 hz).1]; exact hz
  refine ⟨fun k a b ha hb hv => ?_, fun k a ha hv => ?_⟩
  · by_cases hk : k < es.length
    · rw [List.getElem?_append_left hk] at ha
      rw [List.getElem?_append_left (by omega)] at hb
      obtain ⟨p, q, e1, e2, e3, e4⟩ := h.w k a b ha hb hv
      have hq := e3.le e2
      have := code_lt e4
      exact ⟨p, q, e1, by omega, e3.stable e2 he (fun i _ hi => hc i (by omega)), (hc q (by omega)).trans e4⟩
    · rw [List.getElem?_append_right (by omega)] at ha
      rw [List.getElem?_append_right (by omega), ← hl] at hb
      have h0 : k - es.length = 0 := by have := (List.getElem?_eq_some_iff.1 ha).1; simp at this; omega
      rw [h0] at ha hb
      obtain rfl : x = a := by simpa using ha
      obtain rfl : y = b := by simpa using hb
      obtain ⟨p, q, e1, e2, e3, e4⟩ := h1 hv
      exact ⟨p, q, e1, e2, e3.stable e2 he (fun _ _ _ => rfl), e4⟩
  · by_cases hk : k < es.length
    · rw [List.getElem?_append_left hk] at ha; exact h.v k a ha hv
    · rw [List.getElem?_append_right (by omega)] at ha
      have h0 : k - es.length = 0 := by have := (List.getElem?_eq_some_iff.1 ha).1; simp at this; omega
      rw [h0] at ha
      obtain rfl : x = a := by simpa using ha
      exact h2 hv

theorem var_eq {es : List PE} {ws : List RW} (hA : Alike es ws) {nv nt : Int} {code : List Int} (hL : LInv es nv nt code) {s : ByteArray} {toks : List Tk} {I a : Nat} (hat : At s toks I a) (hI : I ≤ toks.length) :
    varP es nv s a = if nameS (tokS toks I) = false then ((4, plc toks s.size I), es, nv) else if 40 ≤ ws.length then ((8, plc toks s.size I), es, nv) else if 16 ≤ nv then ((8, plc toks s.size I), es, nv) else ((0, 0), es ++ [⟨tokS toks I, true, nv, Inf.zero⟩], nv + 1) := by
  unfold varP
  rw [ref_eq hA hL.l hat hI]
  obtain ⟨n1, n2, n3⟩ := hat.next hI
  have := hL.v1
  cases hnm : nameS (tokS toks I) with
  | false => simp [n2]
  | true =>
    simp only [Bool.true_eq_false, if_false]
    by_cases hfull : 40 ≤ ws.length
    · simp [hfull, n2]
    · rw [if_neg hfull, if_neg hfull, if_pos rfl]
      by_cases h16 : 16 ≤ nv
      · rw [if_pos h16, if_pos (by omega), n2]
      · rw [if_neg h16, if_neg (by omega), n1]

end Go.Proofs.YtcphhbofjkenaaaGreatDoor

namespace Go.Proofs.YtcphhbofjkenaaaGreatDoor
open Go Go.RowKit
set_option linter.unusedVariables false
set_option linter.unusedSimpArgs false

def vrE (ws : List RW) (c : Int) (t : ByteArray) : Int := if nmE ws t = 0 then (if 16 ≤ c then 8 else 0) else nmE ws t
theorem nmE_def (ws : List RW) (t : ByteArray) : (if nameS t = false then (4 : Int) else if 40 ≤ ws.length then 8 else 0) = nmE ws t := rfl

structure LD (s : ByteArray) (toks : List Tk) (R : (Int × Int) × List PE × Int × Int × List Int) (I a f : Nat) (es : List PE) (nv nt : Int) (code : List Int) (ws : List RW) : Prop where
  at_ : At s toks I a
  le : I ≤ toks.length
  alike : Alk es code ws
  inv : LInv es nv nt code
  res : R = loadP s f a es nv nt code
  fuel : s.size - a + 1 ≤ f
  ok : ∀ x ∈ ws, x.inf.Wt 1 ∧ ∃ a n c, x.items = .slice a n c

theorem toks_ne (s : ByteArray) : ∀ (f i : Nat), ∀ x ∈ toksF s f i, x.1.toList ≠ []
  | 0, i => by simp [toksF]
  | f + 1, i => by
    unfold toksF
    split
    · rename_i hi
      split
      · exact toks_ne s f (i + 1)
      · rename_i hb
        split
        · exact toks_ne s f _
        · intro x hx
          rcases List.mem_cons.1 hx with rfl | hx
          · intro e
            have hlt := scan_blk_lt s i hi (by simpa using hb)
            have hle := (scan_spec blk s i (by omega)).2.1
            have h1 : (s.extract i (scan blk s i)).size = scan blk s i - i := by simp [ByteArray.size_extract]; omega
            have h2 : s.extract i (scan blk s i) = ⟨#[]⟩ := (ext_list _ []).1 (by simpa using e)
            rw [h2] at h1
            have : (ByteArray.mk #[]).size = 0 := rfl
            omega
          · exact toks_ne s f _ x hx
    · simp

theorem tok_ne {s : ByteArray} {toks : List Tk} (ht : toks = toksAt s 0) {I : Nat} (h : I < toks.length) : (tokS toks I).toList ≠ [] := by
  have hm : toks[I] ∈ toks := List.getElem_mem h
  have : tokS toks I = toks[I].1 := by simp [tokS, h]
  rw [this]
  exact toks_ne s (s.size - 0) 0 _ (by unfold toksAt at ht; rw [← ht]; exact hm)

section
variable {s : ByteArray} {toks : List Tk} {R : (Int × Int) × List PE × Int × Int × List Int} {I a f : Nat} {es : List PE} {nv nt : Int} {code : List Int} {ws : List RW}

theorem LD.done (h : LD s toks R I a f es nv nt code ws) (hI : ¬ I < toks.length) : R = ((0, 0), es, nv, nt, code) := by
  obtain ⟨n1, n2, n3⟩ := h.at_.next h.le
  have hf := h.fuel
  obtain ⟨f', rfl⟩ : ∃ f', f = f' + 1 := ⟨f - 1, by omega⟩
  have he : (tokS toks I).toList = [] := n3.resolve_right (fun e => hI e.1)
  rw [h.res, loadP, n1]
  simp [he]

theorem LD.more (h : LD s toks R I a f es nv nt code ws) (ht : toks = toksAt s 0) (hI : I < toks.length) :
    ∃ f', f = f' + 1 ∧ (nx s a).1 = tokS toks I ∧ ((nx s a).2.1 : Int) = plc toks s.size I ∧ ((tokS toks I).toList == []) = false ∧ At s toks (I + 1) (nx s a).2.2 ∧ a < (nx s a).2.2 ∧ (nx s a).2.2 ≤ s.size := by
  obtain ⟨n1, n2, n3⟩ := h.at_.next h.le
  have hf := h.fuel
  have hne := tok_ne ht hI
  have hat := (n3.resolve_left hne).2
  have hne' : ((tokS toks I).toList == []) = false := by simpa using hne
  exact ⟨f - 1, by omega, n1, n2, hne', hat, nextF_move s (s.size - a) a h.at_.le (by rw [show (nextF s (s.size - a) a).1 = (nx s a).1 from rfl, n1]; exact hne'), hat.le⟩

theorem LD.bad (h : LD s toks R I a f es nv nt code ws) (ht : toks = toksAt s 0) (hI : I < toks.length) (h1 : ((tokS toks I).toList == [118, 97, 114, 105, 97, 98, 108, 101]) = false) (h2 : ((tokS toks I).toList == [58]) = false) : R = ((3, plc toks s.size I), es, nv, nt, code) := by
  obtain ⟨f', rfl, n1, n2, n3, n4, n5, n6⟩ := h.more ht hI
  rw [h.res, loadP, n1, n2]
  simp only [n3, h1, h2, Bool.false_eq_true, if_false]

theorem LD.var_err (h : LD s toks R I a f es nv nt code ws) (ht : toks = toksAt s 0) (hI : I < toks.length) (h1 : ((tokS toks I).toList == [118, 97, 114, 105, 97, 98, 108, 101]) = true) (hE : vrE ws nv (tokS toks (I + 1)) ≠ 0) : R = ((vrE ws nv (tokS toks (I + 1)), plc toks s.size (I + 1)), es, nv, nt, code) := by
  obtain ⟨f', rfl, n1, n2, n3, n4, n5, n6⟩ := h.more ht hI
  have hv := var_eq h.alike.toAlike h.inv n4 (by omega)
  rw [h.res, loadP, n1]
  simp only [n3, h1, Bool.false_eq_true, if_false, if_true]
  unfold vrE at hE ⊢
  rw [← nmE_def] at hE ⊢
  cases hn : nameS (tokS toks (I + 1)) with
  | false =>
    rw [hn] at hv
    simp only [if_true] at hv
    simp [hv]
  | true =>
    rw [hn] at hv hE
    simp only [Bool.true_eq_false, if_false] at hv hE ⊢
    by_cases h40 : 40 ≤ ws.length
    · rw [if_pos h40] at hv
      simp [hv, h40]
    · rw [if_neg h40] at hv hE
      by_cases h16 : 16 ≤ nv
      · rw [if_pos h16] at hv
        simp [hv, h40, h16]
      · simp [h16] at hE

theorem LD.var_ok (h : LD s toks R I a f es nv nt code ws) (ht : toks = toksAt s 0) (hI : I < toks.length) (h1 : ((tokS toks I).toList == [118, 97, 114, 105, 97, 98, 108, 101]) = true) (hE : vrE ws nv (tokS toks (I + 1)) = 0) :
    ∃ a' f' es', LD s toks R (I + 2) a' f' es' (nv + 1) nt code (ws ++ [⟨tokS toks (I + 1), nv, .slice none 0 0, ⟨0, 0, 0, 0, false⟩, []⟩]) := by
  obtain ⟨f', rfl, n1, n2, n3, n4, n5, n6⟩ := h.more ht hI
  have hv := var_eq h.alike.toAlike h.inv n4 (by omega)
  have hli := h.inv.var (s := s) (a := (nx s a).2.2)
  obtain ⟨m1, m2, m3⟩ := n4.next (by omega)
  have hres := h.res
  rw [loadP, n1] at hres
  simp only [n3, h1, Bool.false_eq_true, if_false, if_true] at hres
  unfold vrE at hE
  rw [← nmE_def] at hE
  cases hn : nameS (tokS toks (I + 1)) with
  | false => rw [hn] at hE; simp at hE
  | true =>
    rw [hn] at hv hE
    simp only [Bool.true_eq_false, if_false] at hv hE
    by_cases h40 : 40 ≤ ws.length
    · simp [h40] at hE
    · rw [if_neg h40] at hv hE
      by_cases h16 : 16 ≤ nv
      · simp [h16] at hE
      · rw [if_neg h16] at hv
        rw [hv] at hres hli
        simp only [if_true] at hres hli
        obtain ⟨hlt, hat⟩ := m3.resolve_left (name_some hn)
        have hv0 := h.inv.v0
        obtain ⟨q1, q2, q3, q4⟩ := nextF_le s (s.size - (nx s a).2.2) (nx s a).2.2 n6
        refine ⟨_, f', _, hat, by omega, ⟨h.alike.toAlike.push rfl ⟨fun _ => ⟨rfl, hv0⟩, fun e => by cases e⟩, h.alike.coded.push h.alike.len (fun _ _ => rfl) (Nat.le_refl _) (fun e => by cases e) (fun _ => ⟨hv0, by have := h.inv.v1; show nv ≤ 16; omega⟩)⟩, hli, hres, ?_, ?_⟩
        · have := h.fuel; unfold nx at *; omega
        · intro x hx
          rcases List.mem_append.1 hx with hx | hx
          · exact h.ok x hx
          · rw [List.mem_singleton.1 hx]
            exact ⟨by constructor <;> simp, _, _, _, rfl⟩

theorem LD.word_err (h : LD s toks R I a f es nv nt code ws) (ht : toks = toksAt s 0) (hI : I < toks.length) (h1 : ((tokS toks I).toList == [118, 97, 114, 105, 97, 98, 108, 101]) = false) (h2 : ((tokS toks I).toList == [58]) = true) (F : Nat) (hF : toks.length + 1 ≤ F) {E : Int × Int} (hE : pColon ws nt toks s.size F (I + 1) = .inr E) : R = (E, es, nv, nt, code) := by
  obtain ⟨f', rfl, n1, n2, n3, n4, n5, n6⟩ := h.more ht hI
  have hl : toks.length ≤ s.size := by rw [ht]; unfold toksAt; have := toks_len s (s.size - 0) 0; omega
  have hw := colon_eq h.alike.toAlike h.inv hl n4 (by omega) (by omega) F hF
  rw [hE] at hw
  rw [h.res, loadP, n1]
  simp only [n3, h1, h2, Bool.false_eq_true, if_false, if_true]
  rw [hw.2]
  simp only
  rw [if_neg hw.1]

theorem LD.word_ok (h : LD s toks R I a f es nv nt code ws) (ht : toks = toksAt s 0) (hI : I < toks.length) (h1 : ((tokS toks I).toList == [118, 97, 114, 105, 97, 98, 108, 101]) = false) (h2 : ((tokS toks I).toList == [58]) = true) (F : Nat) (hF : toks.length + 1 ≤ F) {t : ByteArray} {l : List AI} {I' : Nat} (hE : pColon ws nt toks s.size F (I + 1) = .inl (t, l, I')) {v : Value} (hv : ∃ a n c, v = .slice a n c) :
    I + 1 < I' ∧ ∃ a' f' es' code', LD s toks R I' a' f' es' nv (nt + I' - (((I + 1 : Nat) : Int) - 1)) code' (ws ++ [⟨t, -1, v, wInf l, trees l⟩]) := by
  obtain ⟨f', rfl, n1, n2, n3, n4, n5, n6⟩ := h.more ht hI
  have hl : toks.length ≤ s.size := by rw [ht]; unfold toksAt; have := toks_len s (s.size - 0) 0; omega
  have hw := colon_eq h.alike.toAlike h.inv hl n4 (by omega) (by omega) F hF
  have hli := h.inv.word (s := s) (a := (nx s a).2.2) n6
  rw [hE] at hw
  obtain ⟨w1, w2, w3, w4, w5, w6, dc, a', w7, w8, ⟨q9, w9, w10⟩, w11⟩ := hw
  have hle : code.length ≤ dc.length := by
    rcases Nat.lt_or_ge dc.length code.length with h | h
    · have := w11 dc.length h
      rw [List.getElem?_eq_none (Nat.le_refl _), List.getElem?_eq_getElem h] at this; cases this
    · exact h
  have hres := h.res
  rw [loadP, n1] at hres
  simp only [n3, h1, h2, Bool.false_eq_true, if_false, if_true] at hres
  rw [w7] at hres hli
  simp only [if_true] at hres hli
  have e1 : nt + (((I' : Nat) : Int) - (((I + 1 : Nat) : Int) - 1)) = nt + I' - (((I + 1 : Nat) : Int) - 1) := by omega
  rw [e1] at hres hli
  have hnn : (wInf l).Nn := by
    obtain ⟨a1, a2, a3, a4, a5, a6⟩ := w4
    constructor <;> simp only [wInf] <;> omega
  have hs1 : 1 ≤ (wInf l).steps := by have := w4.s; simp only [wInf]; omega
  refine ⟨w1, a', f', _, dc, w8, w2, ⟨h.alike.toAlike.push rfl ⟨(fun e => by cases e), fun _ => ⟨rfl, rfl, hnn, hs1, w5⟩⟩, h.alike.coded.push h.alike.len w11 hle (fun _ => ⟨code.length, q9, rfl, hle, w9, w10⟩) (fun e => by cases e)⟩, hli.1, hres, ?_, ?_⟩
  · have := h.fuel; have := hli.2 trivial; omega
  · intro x hx
    rcases List.mem_append.1 hx with hx | hx
    · exact h.ok x hx
    · rw [List.mem_singleton.1 hx]
      exact ⟨hli.1.w ⟨t, false, code.length, wInf l⟩ (by simp), hv⟩
end

end Go.Proofs.YtcphhbofjkenaaaGreatDoor

namespace Go.Proofs.YtcphhbofjkenaaaGreatDoor
open Go Go.RowKit
set_option linter.unusedVariables false
set_option linter.unusedSimpArgs false

theorem find_eq {es : List PE} {ws : List RW} (hA : Alike es ws) (s : ByteArray) : findRes (lastP es s es.length) = .tuple #[(findI ws s).1.val, .int .i64 (findI ws s).2] := by
  rw [last_findW hA.names s]
  have hb := lastK_lt (nameAt ws) s ws.length
  have hb' : findW ws s < ws.length ∧ -1 ≤ findW ws s := hb
  unfold findI
  by_cases h0 : 0 ≤ findW ws s
  · rw [if_pos h0, if_neg (by omega)]
    obtain ⟨i, hi⟩ : ∃ i : Nat, findW ws s = i := ⟨(findW ws s).toNat, by omega⟩
    rw [hi] at hb' ⊢
    simp only [Int.toNat_natCast]
    have hiw : i < ws.length := by omega
    have hie : i < es.length := by rw [hA.len]; exact hiw
    have hu := hA.use i es[i] ws[i] (List.getElem?_eq_getElem hie) (List.getElem?_eq_getElem hiw)
    rw [List.getElem?_eq_getElem hiw]
    have he : es.getD i PE.zero = es[i] := by simp [hie]
    rw [he]
    simp only [findRes]
    cases hv : es[i].var with
    | true =>
      have := hu.1 hv
      rw [if_pos rfl, if_pos this.2]; rfl
    | false =>
      have := hu.2 hv
      rw [if_neg (by simp), if_neg (by rw [this.1]; decide), this.2.1]
  · rw [if_neg h0, if_pos (by omega)]
    rfl

theorem find_bd {es : List PE} {ws : List RW} (hA : Alike es ws) (s : ByteArray) (h : (findI ws s).2 = 0) : 1 ≤ (findI ws s).1.steps ∧ (findI ws s).1.steps ≤ 1000000000 := by
  have hb : findW ws s < ws.length ∧ -1 ≤ findW ws s := lastK_lt (nameAt ws) s ws.length
  unfold findI at h ⊢
  by_cases h0 : findW ws s < 0
  · rw [if_pos h0] at h; exact absurd h (by decide)
  · rw [if_neg h0] at h ⊢
    obtain ⟨i, hi⟩ : ∃ i : Nat, findW ws s = i := ⟨(findW ws s).toNat, by omega⟩
    rw [hi] at hb h ⊢
    simp only [Int.toNat_natCast] at h ⊢
    have hiw : i < ws.length := by omega
    have hie : i < es.length := by rw [hA.len]; exact hiw
    have hu := hA.use i es[i] ws[i] (List.getElem?_eq_getElem hie) (List.getElem?_eq_getElem hiw)
    rw [List.getElem?_eq_getElem hiw] at h ⊢
    simp only at h ⊢
    by_cases hv : 0 ≤ ws[i].var
    · rw [if_pos hv] at h; exact absurd h (by decide)
    · rw [if_neg hv] at h ⊢
      cases hx : es[i].var with
      | true => exact absurd (hu.1 hx).2 hv
      | false => exact (hu.2 hx).2.2.2

structure TK where
  word : ByteArray
  per : Int
  dl : Int
  off : Int
deriving Inhabited

def TK.cells (t : TK) : List Value := [.string t.word, .int .i64 t.per, .int .i64 t.dl, .int .i64 t.off]
def TK.val (t : TK) : Value := .agg #[.string t.word, .int .i64 t.per, .int .i64 t.dl, .int .i64 t.off]
def TK.Fits (t : TK) : Prop := 1 ≤ t.per ∧ t.per ≤ 1000000 ∧ 1 ≤ t.dl ∧ t.dl ≤ t.per ∧ 0 ≤ t.off ∧ t.off ≤ 1000000
instance (t : TK) : Decidable t.Fits := by unfold TK.Fits; infer_instance

def wrongT (ws : List RW) (t : TK) : Int :=
  if (findI ws t.word).2 ≠ 0 then (findI ws t.word).2 else if ¬ t.Fits then 9 else if 0 < (findI ws t.word).1.need ∨ 32 < (findI ws t.word).1.high then 10 else 0

def scanW (ws : List RW) : List TK → Nat → Option (Int × Nat)
  | [], _ => none
  | t :: r, k => if wrongT ws t ≠ 0 then some (wrongT ws t, k) else scanW ws r (k + 1)

theorem scanW_none {ws : List RW} : ∀ {l : List TK} {k : Nat}, scanW ws l k = none → ∀ t ∈ l, wrongT ws t = 0
  | [], _, _, t, ht => by cases ht
  | x :: r, k, h, t, ht => by
    unfold scanW at h
    split at h
    · cases h
    · rename_i hx
      rcases List.mem_cons.1 ht with e | e
      · subst e; exact Classical.byContradiction hx
      · exact scanW_none h t e

def loadsT (ws : List RW) (l : List TK) : List (Int × Int) := l.map fun t => ((findI ws t.word).1.steps, t.per)
theorem loads_ok {es : List PE} {ws : List RW} (hA : Alike es ws) {l : List TK} (h : ∀ t ∈ l, wrongT ws t = 0) : ∀ x ∈ loadsT ws l, 1 ≤ x.1 ∧ x.1 ≤ 1000000000 ∧ 1 ≤ x.2 ∧ x.2 ≤ 1000000 := by
  intro x hx
  obtain ⟨t, ht, rfl⟩ := List.mem_map.1 hx
  have := h t ht
  unfold wrongT at this
  split at this
  · contradiction
  · rename_i h0
    have hb := find_bd hA t.word (Classical.byContradiction h0)
    split at this
    · exact absurd this (by decide)
    · rename_i h1
      have h1 : t.Fits := Classical.byContradiction h1
      exact ⟨hb.1, hb.2, h1.1, h1.2.1⟩
def costAt (ls : List (Int × Int)) (k : Nat) : Int := (ls.getD k (0, 0)).1
def perAt (ls : List (Int × Int)) (k : Nat) : Int := (ls.getD k (0, 0)).2

def goesP (ls : List (Int × Int)) (j k : Nat) : Bool := decide (perAt ls j < perAt ls k) || (decide (perAt ls j = perAt ls k) && decide (j < k))

def aheadP (ls : List (Int × Int)) (k : Nat) : Nat → List (Int × Int)
  | 0 => []
  | n + 1 => if goesP ls n k = true then aheadP ls k n ++ [(costAt ls n, perAt ls n)] else aheadP ls k n

theorem aheadP_len (ls : List (Int × Int)) (k n : Nat) : (aheadP ls k n).length ≤ n := by
  induction n with
  | zero => simp [aheadP]
  | succ n ih =>
    unfold aheadP
    split
    · rw [List.length_append, List.length_singleton]; omega
    · omega

def within (r : Int) : List (Int × Int) → Int
  | [] => 0
  | x :: l => x.1 * ((r + x.2 - 1) / x.2) + within r l
theorem within_append (r : Int) (a b : List (Int × Int)) : within r (a ++ b) = within r a + within r b := by
  induction a with
  | nil => simp [within]
  | cons x l ih => simp only [List.cons_append, within, ih]; omega
theorem within_take (r : Int) (l : List (Int × Int)) (n : Nat) (h : n < l.length) : within r (l.take (n + 1)) = within r (l.take n) + l[n].1 * ((r + l[n].2 - 1) / l[n].2) := by
  rw [List.take_add_one, within_append, List.getElem?_eq_getElem h]
  simp [within]

def LdOk (x : Int × Int) : Prop := 1 ≤ x.1 ∧ x.1 ≤ 1000000000 ∧ 1 ≤ x.2 ∧ x.2 ≤ 1000000

theorem rel_mono {p a b : Int} (hp : 1 ≤ p) (h : a ≤ b) : (a + p - 1) / p ≤ (b + p - 1) / p := Int.ediv_le_ediv (by omega) (by omega)
theorem rel_bd {p r : Int} (hp : 1 ≤ p) (hr : 0 ≤ r) (hr2 : r ≤ 1000000) : 0 ≤ (r + p - 1) / p ∧ (r + p - 1) / p ≤ 1000000 := by
  refine ⟨Int.ediv_nonneg (by omega) (by omega), ?_⟩
  by_cases h0 : r = 0
  · subst h0
    have : (0 + p - 1) / p = 0 := Int.ediv_eq_zero_of_lt (by omega) (by omega)
    omega
  · have h1 : (r + p - 1) / p ≤ r := by
      apply Int.le_of_lt_add_one
      apply Int.ediv_lt_of_lt_mul (by omega)
      have : r * 1 ≤ r * p := Int.mul_le_mul_of_nonneg_left hp (by omega)
      rw [Int.add_mul]
      have e : 1 * p = p := Int.one_mul p
      omega
    omega
theorem one_bd {x : Int × Int} (h : LdOk x) {r : Int} (hr : 0 ≤ r) (hr2 : r ≤ 1000000) : 0 ≤ x.1 * ((r + x.2 - 1) / x.2) ∧ x.1 * ((r + x.2 - 1) / x.2) ≤ 1000000000000000 := by
  obtain ⟨a, b, c, d⟩ := h
  obtain ⟨e, f⟩ := rel_bd c hr hr2
  refine ⟨Int.mul_nonneg (by omega) e, ?_⟩
  have : x.1 * ((r + x.2 - 1) / x.2) ≤ 1000000000 * 1000000 := Int.mul_le_mul b f e (by omega)
  omega
theorem within_bd {l : List (Int × Int)} (h : ∀ x ∈ l, LdOk x) {r : Int} (hr : 0 ≤ r) (hr2 : r ≤ 1000000) : 0 ≤ within r l ∧ within r l ≤ l.length * 1000000000000000 := by
  induction l with
  | nil => simp [within]
  | cons x l ih =>
    have h1 := one_bd (h x (List.mem_cons_self ..)) hr hr2
    have h2 := ih (fun y hy => h y (List.mem_cons_of_mem _ hy))
    simp only [within, List.length_cons]
    omega
theorem within_mono {l : List (Int × Int)} (h : ∀ x ∈ l, LdOk x) {a b : Int} (hab : a ≤ b) : within a l ≤ within b l := by
  induction l with
  | nil => simp [within]
  | cons x l ih =>
    have h2 := ih (fun y hy => h y (List.mem_cons_of_mem _ hy))
    obtain ⟨c, _, d, _⟩ := h x (List.mem_cons_self ..)
    have h1 : x.1 * ((a + x.2 - 1) / x.2) ≤ x.1 * ((b + x.2 - 1) / x.2) := Int.mul_le_mul_of_nonneg_left (rel_mono d hab) (by omega)
    simp only [within]
    omega

def respG (D : Int → Int) (dl : Int) : Nat → Int → Int
  | 0, _ => 0
  | f + 1, r => if r ≤ dl then (if D r = r then r else respG D dl f (D r)) else 0
def respT (D : Int → Int) (dl : Int) : Int := respG D dl (dl.toNat + 1) 1
def demandT (ls : List (Int × Int)) (k : Nat) (r : Int) : Int := costAt ls k + within r (aheadP ls k ls.length)

theorem costAt_get {ls : List (Int × Int)} {k : Nat} (h : k < ls.length) : costAt ls k = ls[k].1 := by simp [costAt, h]
theorem perAt_get {ls : List (Int × Int)} {k : Nat} (h : k < ls.length) : perAt ls k = ls[k].2 := by simp [perAt, h]
theorem ld_at {ls : List (Int × Int)} (h : ∀ x ∈ ls, LdOk x) {k : Nat} (hk : k < ls.length) : LdOk (costAt ls k, perAt ls k) := by
  rw [costAt_get hk, perAt_get hk]; exact h _ (List.getElem_mem hk)
theorem ahead_ok {ls : List (Int × Int)} (h : ∀ x ∈ ls, LdOk x) (k : Nat) : ∀ n, n ≤ ls.length → ∀ x ∈ aheadP ls k n, LdOk x
  | 0, _, x, hx => by cases hx
  | n + 1, hn, x, hx => by
    unfold aheadP at hx
    split at hx
    · rcases List.mem_append.1 hx with hx | hx
      · exact ahead_ok h k n (by omega) x hx
      · rw [List.mem_singleton.1 hx]; exact ld_at h (by omega)
    · exact ahead_ok h k n (by omega) x hx
def respAt (ls : List (Int × Int)) (l : List TK) (k : Nat) : Int := respT (demandT ls k) (l.getD k default).dl
def planAt (ls : List (Int × Int)) (l : List TK) (k : Nat) : List Value := [.int .i64 (costAt ls k), .int .i64 ((aheadP ls k ls.length).length : Int), .int .i64 (respAt ls l k)]
def plansTo (ls : List (Int × Int)) (l : List TK) : Nat → List Value
  | 0 => []
  | n + 1 => plansTo ls l n ++ planAt ls l n
theorem plansTo_len (ls : List (Int × Int)) (l : List TK) (n : Nat) : (plansTo ls l n).length = n * 3 := by
  induction n with
  | zero => rfl
  | succ n ih => rw [plansTo, List.length_append, ih]; simp [planAt]; omega

def lateP (ls : List (Int × Int)) (l : List TK) : Nat → Nat → Option Nat
  | 0, _ => none
  | n + 1, k => if respAt ls l k = 0 then some k else lateP ls l n (k + 1)

def admitT (ws : List RW) (l : List TK) : Int × Nat :=
  if l.length = 0 ∨ 8 < l.length then (1, 0) else
    match scanW ws l 0 with
    | some (e, k) => (e, k)
    | none => match lateP (loadsT ws l) l l.length 0 with
      | some k => (11, k)
      | none => (0, 0)

end Go.Proofs.YtcphhbofjkenaaaGreatDoor

namespace Go.Proofs.YtcphhbofjkenaaaGreatDoor
open Go Go.RowKit
set_option linter.unusedVariables false
set_option linter.unusedSimpArgs false

theorem pig : ∀ (n : Nat) (f : Nat → Nat), (∀ i, i < n → f i < n) → (∀ i k, i < n → k < n → f i = f k → i = k) → ∀ j, j < n → ∃ i, i < n ∧ f i = j
  | 0, _, _, _, j, hj => by omega
  | n + 1, f, hb, hi, j, hj => by
    by_cases hn : f n = n
    · by_cases hjn : j = n
      · exact ⟨n, by omega, by rw [hn, hjn]⟩
      · obtain ⟨i, h1, h2⟩ := pig n f (fun i h => by
          have h1 := hb i (by omega)
          have : f i ≠ n := fun e => by have := hi i n (by omega) (by omega) (e.trans hn.symm); omega
          omega) (fun i k h1 h2 e => hi i k (by omega) (by omega) e) j (by omega)
        exact ⟨i, by omega, h2⟩
    · have hfn : f n < n := by have := hb n (by omega); omega
      have key := pig n (fun i => if f i = n then f n else f i) (fun i h => by
          show (if f i = n then f n else f i) < n
          have := hb i (by omega)
          split <;> omega) (fun i k h1 h2 e => by
          have a1 := hi i n (by omega) (by omega)
          have a2 := hi k n (by omega) (by omega)
          have a3 := hi i k (by omega) (by omega)
          by_cases c1 : f i = n <;> by_cases c2 : f k = n
          · exact a3 (c1.trans c2.symm)
          · rw [if_pos c1, if_neg c2] at e; have := a2 e.symm; omega
          · rw [if_neg c1, if_pos c2] at e; have := a1 e; omega
          · rw [if_neg c1, if_neg c2] at e; exact a3 e)
      by_cases hj2 : j = f n
      · exact ⟨n, by omega, hj2.symm⟩
      · by_cases hjn : j = n
        · obtain ⟨i, h1, h2⟩ := key (f n) hfn
          by_cases c : f i = n
          · exact ⟨i, by omega, by omega⟩
          · rw [if_neg c] at h2; have := hi i n (by omega) (by omega) h2; omega
        · obtain ⟨i, h1, h2⟩ := key j (by omega)
          by_cases c : f i = n
          · rw [if_pos c] at h2; exact absurd h2.symm hj2
          · rw [if_neg c] at h2; exact ⟨i, by omega, h2⟩

section
variable {ls : List (Int × Int)} {i j k : Nat}

theorem goes_iff : goesP ls j k = true ↔ perAt ls j < perAt ls k ∨ (perAt ls j = perAt ls k ∧ j < k) := by
  unfold goesP
  simp only [Bool.or_eq_true, Bool.and_eq_true, decide_eq_true_eq]
theorem goes_irr : goesP ls j j = false := by
  cases h : goesP ls j j with
  | false => rfl
  | true => have := goes_iff.1 h; omega
theorem goes_trans (h : goesP ls i j = true) (h' : goesP ls j k = true) : goesP ls i k = true := by
  have a := goes_iff.1 h
  have b := goes_iff.1 h'
  exact goes_iff.2 (by omega)
theorem goes_total (h : j ≠ k) : goesP ls j k = true ∨ goesP ls k j = true := by
  rcases Int.lt_trichotomy (perAt ls j) (perAt ls k) with e | e | e
  · exact Or.inl (goes_iff.2 (Or.inl e))
  · rcases Nat.lt_or_gt_of_ne h with e' | e'
    · exact Or.inl (goes_iff.2 (Or.inr ⟨e, e'⟩))
    · exact Or.inr (goes_iff.2 (Or.inr ⟨e.symm, e'⟩))
  · exact Or.inr (goes_iff.2 (Or.inl e))

theorem ahead_le (h : ∀ i, goesP ls i j = true → goesP ls i k = true) : ∀ n, (aheadP ls j n).length ≤ (aheadP ls k n).length
  | 0 => Nat.le_refl _
  | n + 1 => by
    have ih := ahead_le h n
    unfold aheadP
    by_cases hj : goesP ls n j = true
    · rw [if_pos hj, if_pos (h n hj), List.length_append, List.length_append]; simp; exact ih
    · rw [if_neg hj]
      by_cases hk : goesP ls n k = true
      · rw [if_pos hk, List.length_append]; omega
      · rw [if_neg hk]; exact ih
theorem ahead_lt (h : goesP ls j k = true) : ∀ n, j < n → (aheadP ls j n).length < (aheadP ls k n).length
  | 0, hn => by omega
  | n + 1, hn => by
    have h' : ∀ i, goesP ls i j = true → goesP ls i k = true := fun i hi => goes_trans hi h
    unfold aheadP
    by_cases e : j = n
    · subst e
      have := ahead_le h' j
      rw [if_neg (by rw [goes_irr]; decide), if_pos h, List.length_append]; simp; omega
    · have ih := ahead_lt h n (by omega)
      by_cases hj : goesP ls n j = true
      · rw [if_pos hj, if_pos (h' n hj), List.length_append, List.length_append]; simp; exact ih
      · rw [if_neg hj]
        by_cases hk : goesP ls n k = true
        · rw [if_pos hk, List.length_append]; omega
        · rw [if_neg hk]; exact ih
theorem ahead_room : ∀ n, k < n → (aheadP ls k n).length < n
  | 0, h => by omega
  | n + 1, h => by
    unfold aheadP
    by_cases e : k = n
    · subst e
      have := aheadP_len ls k k
      rw [if_neg (by rw [goes_irr]; decide)]; omega
    · have ih := ahead_room n (by omega)
      by_cases hk : goesP ls n k = true
      · rw [if_pos hk, List.length_append]; simp; exact ih
      · rw [if_neg hk]; omega

def rankP (ls : List (Int × Int)) (k : Nat) : Nat := (aheadP ls k ls.length).length
theorem rank_lt (h : k < ls.length) : rankP ls k < ls.length := ahead_room _ h
theorem rank_goes (hj : j < ls.length) (h : goesP ls j k = true) : rankP ls j < rankP ls k := ahead_lt h _ hj
theorem rank_inj (hj : j < ls.length) (hk : k < ls.length) (h : rankP ls j = rankP ls k) : j = k := Classical.byContradiction fun e => by
  rcases goes_total (ls := ls) e with g | g
  · have := rank_goes hj g; omega
  · have := rank_goes hk g; omega
theorem rank_onto {p : Nat} (h : p < ls.length) : ∃ k, k < ls.length ∧ rankP ls k = p := pig _ (rankP ls) (fun _ h => rank_lt h) (fun _ _ h h' e => rank_inj h h' e) p h
def holdP (ls : List (Int × Int)) (p : Nat) : Nat := ((List.range ls.length).find? fun k => rankP ls k == p).getD 0
def rksP (ls : List (Int × Int)) : List Nat := (List.range ls.length).map (holdP ls)
theorem hold_ok {p : Nat} (h : p < ls.length) : holdP ls p < ls.length ∧ rankP ls (holdP ls p) = p := by
  unfold holdP
  cases hf : (List.range ls.length).find? fun k => rankP ls k == p with
  | none =>
    obtain ⟨k, h1, h2⟩ := rank_onto h
    have := List.find?_eq_none.1 hf k (List.mem_range.2 h1)
    simp [h2] at this
  | some k =>
    have h1 := List.mem_range.1 (List.mem_of_find?_eq_some hf)
    have h2 := List.find?_some hf
    exact ⟨h1, by simpa using h2⟩
theorem rks_at {p : Nat} (h : p < ls.length) : (rksP ls).getD p 0 = holdP ls p := by
  simp [rksP, h]
end

end Go.Proofs.YtcphhbofjkenaaaGreatDoor

namespace Go.Proofs.YtcphhbofjkenaaaGreatDoor
open Go Go.RowKit
set_option linter.unusedVariables false
set_option linter.unusedSimpArgs false

theorem fits_no {t : TK} (h : ¬ (1 ≤ t.per ∧ t.per ≤ 1000000 ∧ 1 ≤ t.dl ∧ t.dl ≤ t.per ∧ 0 ≤ t.off ∧ t.off ≤ 1000000)) : decide t.Fits = false := decide_eq_false h

set_option maxHeartbeats 4000000 in
theorem rates_fits (t : TK) (w : World) :
    Calls Tryz.prog 81 #[t.val] w fun e w' => e = .returned (.bool (decide t.Fits)) ∧ Below w.heap.size w w' := by
  obtain ⟨s, p, d, o⟩ := t
  obtain ⟨R, hR⟩ : ∃ R, R = decide (TK.mk s p d o).Fits := ⟨_, rfl⟩
  rw [← hR]
  have hb : ∀ ob : Obj, Below w.heap.size w (w.alloc ob) := fun ob => (Below.refl _ _).alloc (Nat.le_refl _) _
  have HB := hidden hb
  clear hb
  by_cases h1 : 1 ≤ p
  · by_cases h2 : p ≤ 1000000
    · by_cases h3 : 1 ≤ d
      · by_cases h4 : d ≤ p
        · by_cases h5 : 0 ≤ o
          · by_cases h6 : o ≤ 1000000
            · have HR : Hid (R = true) := by show R = true; rw [hR]; exact decide_eq_true ⟨h1, h2, h3, h4, h5, h6⟩
              clear hR
              unfold TK.val
              go_enter Tryz.func81, Tryz.ntmps81
              go_wp2_with fail
              rw [HR.out]
              go_ret
              exact ⟨rfl, HB.out _⟩
            · have HR : Hid (R = false) := by show R = false; rw [hR]; exact fits_no (fun h => h6 h.2.2.2.2.2)
              clear hR
              unfold TK.val
              go_enter Tryz.func81, Tryz.ntmps81
              go_wp2_with fail
              rw [HR.out]
              go_ret
              exact ⟨rfl, HB.out _⟩
          · have HR : Hid (R = false) := by show R = false; rw [hR]; exact fits_no (fun h => h5 h.2.2.2.2.1)
            clear hR
            unfold TK.val
            go_enter Tryz.func81, Tryz.ntmps81
            go_wp2_with fail
            rw [HR.out]
            go_ret
            exact ⟨rfl, HB.out _⟩
        · have HR : Hid (R = false) := by show R = false; rw [hR]; exact fits_no (fun h => h4 h.2.2.2.1)
          clear hR
          unfold TK.val
          go_enter Tryz.func81, Tryz.ntmps81
          go_wp2_with fail
          rw [HR.out]
          go_ret
          exact ⟨rfl, HB.out _⟩
      · have HR : Hid (R = false) := by show R = false; rw [hR]; exact fits_no (fun h => h3 h.2.2.1)
        clear hR
        unfold TK.val
        go_enter Tryz.func81, Tryz.ntmps81
        go_wp2_with fail
        rw [HR.out]
        go_ret
        exact ⟨rfl, HB.out _⟩
    · have HR : Hid (R = false) := by show R = false; rw [hR]; exact fits_no (fun h => h2 h.2.1)
      clear hR
      unfold TK.val
      go_enter Tryz.func81, Tryz.ntmps81
      go_wp2_with fail
      rw [HR.out]
      go_ret
      exact ⟨rfl, HB.out _⟩
  · have HR : Hid (R = false) := by show R = false; rw [hR]; exact fits_no (fun h => h1 h.1)
    clear hR
    unfold TK.val
    go_enter Tryz.func81, Tryz.ntmps81
    go_wp2_with fail
    rw [HR.out]
    go_ret
    exact ⟨rfl, HB.out _⟩

theorem ret2 {a b a' b' : Int} (h : a = a') (h' : b = b') : Ending.returned (.tuple #[.int .i64 a, .int .i64 b]) = .returned (.tuple #[.int .i64 a', .int .i64 b']) := by rw [h, h']

def priceT (ws : List RW) (t : TK) : Int := if wrongT ws t = 0 then (findI ws t.word).1.steps else 0

set_option maxRecDepth 100000 in
set_option maxHeartbeats 8000000 in
theorem rates_price {w : World} {bb : Nat} {ev cv : Value} {es : List PE} {nv nt : Int} {code : List Int} {ws : List RW} (t : TK) (h : PSys w bb ev cv es nv nt code) (hl : es.length ≤ 1000) (hA : Alike es ws) :
    Calls Tryz.prog 53 #[.pointer (some ⟨bb, 0, none⟩), t.val] w fun e w' => e = .returned (.tuple #[.int .i64 (priceT ws t), .int .i64 (wrongT ws t)]) ∧ Below w.heap.size w w' := by
  have hff : ∀ w' : World, Below w.heap.size w w' → Calls Tryz.prog 18 #[.pointer (some ⟨bb, 0, none⟩), .string t.word] w' fun e w2 => e = .returned (.tuple #[(findI ws t.word).1.val, .int .i64 (findI ws t.word).2]) ∧ Below w'.heap.size w' w2 := fun w' hb => by
    have := forth_find t.word (h.below hb) hl
    rw [find_eq hA t.word] at this
    exact this
  obtain ⟨P, hP⟩ : ∃ P, P = priceT ws t := ⟨_, rfl⟩
  obtain ⟨E, hE⟩ : ∃ E, E = wrongT ws t := ⟨_, rfl⟩
  have hP2 := hP
  unfold priceT at hP2
  rw [← hE] at hP2
  have hE2 := hE
  unfold wrongT at hE2
  rw [← hP, ← hE]
  obtain ⟨⟨⟨b1, b2, b3, b4, b5⟩, f⟩, hF⟩ : ∃ F, F = findI ws t.word := ⟨_, rfl⟩
  rw [← hF] at hff hP2 hE2
  simp only [Inf.val] at hff hP2 hE2
  have hbb := h.blk.lt
  have HF := hidden hff; have HFT := hidden (fun w' => rates_fits t w')
  have HP2 := hidden hP2; have HE2 := hidden hE2
  clear h hff hP hE hP2 hE2 hF
  obtain ⟨s, p, d, o⟩ := t
  simp only at HF
  obtain ⟨B, hB⟩ : ∃ B, B = decide (TK.mk s p d o).Fits := ⟨_, rfl⟩
  rw [← hB] at HFT
  have HBB := hidden hB
  clear hB
  unfold TK.val at HFT ⊢
  simp only at HFT ⊢
  have hb0 : Below w.heap.size w (w.alloc (.cells #[.string s, .int .i64 p, .int .i64 d, .int .i64 o] 67 (0, 0))) := (Below.refl _ _).alloc (Nat.le_refl _) _
  obtain ⟨X, hX⟩ : ∃ X : World, X = w.alloc (.cells #[.string s, .int .i64 p, .int .i64 d, .int .i64 o] 67 (0, 0)) := ⟨_, rfl⟩
  obtain ⟨tb, htb⟩ : ∃ tb, tb = w.heap.size := ⟨_, rfl⟩
  have hkX : Blk X tb #[.string s, .int .i64 p, .int .i64 d, .int .i64 o] 67 := by rw [hX, htb]; exact blk_new w _ _
  rw [← hX] at hb0
  have HX := hidden hX; have HTB := hidden htb; have HB0 := hidden hb0; have HKX := hidden hkX
  have x0 : X.cell? ⟨tb, 0, none⟩ = some (.string s) := hkX.cell 0 _ rfl
  clear hX htb hb0 hkX
  go_enter Tryz.func53, Tryz.ntmps53
  go_upto_region 1 with fail
  rw [← HX.out, ← HTB.out]
  go_wp2_with fail
  refine (HF.out _ HB0.out).mono ?_
  rintro e w1 ⟨rfl, hb1⟩
  obtain ⟨Y, hY⟩ : ∃ Y : World, Y = w1.alloc (.cells #[.int .i64 b1, .int .i64 b2, .int .i64 b3, .int .i64 b4, .bool b5] 36 (0, 0)) := ⟨_, rfl⟩
  obtain ⟨ib, hib⟩ : ∃ ib, ib = w1.heap.size := ⟨_, rfl⟩
  have hbY : Below X.heap.size X Y := by rw [hY]; exact hb1.alloc hb1.size _
  have hkY : Blk Y ib #[.int .i64 b1, .int .i64 b2, .int .i64 b3, .int .i64 b4, .bool b5] 36 := by rw [hY, hib]; exact blk_new w1 _ _
  have hktY := HKX.out.sub hbY HKX.out.lt
  have y0 : Y.cell? ⟨tb, 0, none⟩ = some (.string s) := hktY.cell 0 _ rfl
  have y1 : Y.cell? ⟨tb, 1, none⟩ = some (.int .i64 p) := hktY.cell 1 _ rfl
  have y2 : Y.cell? ⟨tb, 2, none⟩ = some (.int .i64 d) := hktY.cell 2 _ rfl
  have y3 : Y.cell? ⟨tb, 3, none⟩ = some (.int .i64 o) := hktY.cell 3 _ rfl
  have HY := hidden hY; have HIB := hidden hib; have HBY := hidden (HB0.out.trans (hbY.mono HB0.out.size)); have HKY := hidden hkY
  clear hY hib hbY hkY hktY hb1 HF x0
  go_upto_region 2 with fail
  rw [← HY.out, ← HIB.out]
  by_cases hf0 : f = 0
  · have hfn : (f != 0) = false := by simp [hf0]
    have hE := HE2.out
    rw [if_neg (by simp [hf0])] at hE
    have HE3 := hidden hE
    clear hE
    go_wp2_with fail
    refine (HFT.out _).mono ?_
    rintro e w2 ⟨rfl, hb2⟩
    have hk2 := HKY.out.sub hb2 HKY.out.lt
    have z0 : w2.cell? ⟨ib, 0, none⟩ = some (.int .i64 b1) := hk2.cell 0 _ rfl
    have z2 : w2.cell? ⟨ib, 2, none⟩ = some (.int .i64 b3) := hk2.cell 2 _ rfl
    have z3 : w2.cell? ⟨ib, 3, none⟩ = some (.int .i64 b4) := hk2.cell 3 _ rfl
    have HB2 := hidden (HBY.out.trans (hb2.mono HBY.out.size))
    clear hb2 hk2 y0 y1 y2 y3
    cases B with
    | false =>
      have hE := HE3.out
      rw [if_pos (by have := HBB.out.symm; exact of_decide_eq_false this)] at hE
      have HE4 : Hid (P = 0 ∧ E = 9) := ⟨by have := HP2.out; rw [if_neg (by rw [hE]; decide)] at this; exact this, hE⟩
      clear hE
      go_wp2_with fail
      exact bodyPost_ret (v := .tuple #[.int .i64 0, .int .i64 9]) (by simp [results, Tryz.results53, go_sem]) rfl ⟨ret2 HE4.out.1.symm HE4.out.2.symm, HB2.out⟩
    | true =>
      have hE := HE3.out
      rw [if_neg (by have := of_decide_eq_true HBB.out.symm; exact fun h => h this)] at hE
      by_cases hn : 0 < b1
      · rw [if_pos (Or.inl hn)] at hE
        have HE4 : Hid (P = 0 ∧ E = 10) := ⟨by have := HP2.out; rw [if_neg (by rw [hE]; decide)] at this; exact this, hE⟩
        clear hE
        go_wp2_with fail
        exact bodyPost_ret (v := .tuple #[.int .i64 0, .int .i64 10]) (by simp [results, Tryz.results53, go_sem]) rfl ⟨ret2 HE4.out.1.symm HE4.out.2.symm, HB2.out⟩
      · by_cases hh : 32 < b3
        · rw [if_pos (Or.inr hh)] at hE
          have HE4 : Hid (P = 0 ∧ E = 10) := ⟨by have := HP2.out; rw [if_neg (by rw [hE]; decide)] at this; exact this, hE⟩
          clear hE
          go_wp2_with fail
          exact bodyPost_ret (v := .tuple #[.int .i64 0, .int .i64 10]) (by simp [results, Tryz.results53, go_sem]) rfl ⟨ret2 HE4.out.1.symm HE4.out.2.symm, HB2.out⟩
        · rw [if_neg (fun e => e.elim hn hh)] at hE
          have HE4 : Hid (P = b4 ∧ E = 0) := ⟨by have := HP2.out; rw [if_pos hE] at this; exact this, hE⟩
          clear hE
          go_wp2_with fail
          exact bodyPost_ret (v := .tuple #[.int .i64 b4, .int .i64 0]) (by simp [results, Tryz.results53, go_sem]) rfl ⟨ret2 HE4.out.1.symm HE4.out.2.symm, HB2.out⟩
  · have hfn : (f != 0) = true := by simp [hf0]
    have hE := HE2.out
    rw [if_pos hf0] at hE
    have HE4 : Hid (P = 0 ∧ E = f) := ⟨by have := HP2.out; rw [if_neg (by rw [hE]; exact hf0)] at this; exact this, hE⟩
    clear hE
    go_wp2_with fail
    exact bodyPost_ret (v := .tuple #[.int .i64 0, .int .i64 f]) (by simp [results, Tryz.results53, go_sem]) rfl ⟨ret2 HE4.out.1.symm HE4.out.2.symm, HBY.out⟩

theorem wrap_id (n : Int) (h : -9223372036854775808 ≤ n ∧ n ≤ 9223372036854775807) : wrap64 n = n := by unfold wrap64; omega

def ldC (x : Int × Int) : List Value := [.int .i64 x.1, .int .i64 x.2]

set_option maxRecDepth 100000 in
set_option maxHeartbeats 4000000 in
theorem rates_within {base : Nat} (r : Int) (ls : List (Int × Int)) (v : Value) (w : World) (hr : w.ownsRow base 128 2 v ls.length (ls.flatMap ldC)) (hok : ∀ x ∈ ls, LdOk x) (h8 : ls.length ≤ 8) (h0 : 0 ≤ r) (h1 : r ≤ 1000000) :
    Calls Tryz.prog 82 #[.int .i64 r, v] w fun e w' => e = .returned (.int .i64 (within r ls)) ∧ Below w.heap.size w w' := by
  obtain ⟨va, vc, hv, hvc, _⟩ := row_shape hr
  subst hv
  obtain ⟨R, hR⟩ : ∃ R, R = within r ls := ⟨_, rfl⟩
  rw [← hR]
  have HR := hidden hR; have HRW := hidden hr; have HOK := hidden hok
  obtain ⟨N, hN⟩ : ∃ N, N = ls.length := ⟨_, rfl⟩
  rw [← hN] at h8 hvc
  have HN := hidden hN
  rw [← hN]
  clear hR hr hok hN
  go_enter Tryz.func82, Tryz.ntmps82
  go_wp2_with fail
  go_loopw [5, 11] (fun s i wr => ∃ k : Nat, k ≤ N ∧ i = .int .i64 k ∧ s = .int .i64 (within r (ls.take k)) ∧ Hid (Below w.heap.size w wr)) (fun _ i _ => N - (intOf i).toNat)
  case atStart => exact ⟨0, Nat.zero_le _, rfl, rfl, Below.refl _ _⟩
  case round =>
    obtain ⟨k, hk, rfl, rfl, HB⟩ := hrel
    by_cases hlt : k < N
    · have hli : (k : Int) < (N : Int) := by omega
      have hl0 : (0 : Int) ≤ (k : Int) := by omega
      have hkl : k < ls.length := by rw [← HN.out]; exact hlt
      obtain ⟨g, cap', hv, _, hg, _, _, hc⟩ := row_cells HRW.out (by omega)
      obtain ⟨rfl, rfl⟩ : va = some ⟨g, 0, none⟩ ∧ vc = cap' := by simpa using hv
      obtain ⟨⟨c, p⟩, hx⟩ : ∃ x, x = ls[k] := ⟨_, rfl⟩
      have e0 : wr.cell? ⟨g, k * 2, none⟩ = some (.int .i64 c) := by
        rw [HB.out.cell (p := ⟨g, k * 2, none⟩) hg]
        refine hc _ _ ?_
        have := flat_get ldC 2 (fun _ => rfl) ls k 0 hkl (by omega)
        rw [Nat.add_zero] at this
        rw [this, ← hx]; rfl
      have e1 : wr.cell? ⟨g, k * 2 + 1, none⟩ = some (.int .i64 p) := by
        rw [HB.out.cell (p := ⟨g, k * 2 + 1, none⟩) hg]
        refine hc _ _ ?_
        rw [flat_get ldC 2 (fun _ => rfl) ls k 1 hkl (by omega), ← hx]; rfl
      have hokx := HOK.out _ (List.getElem_mem hkl)
      rw [← hx] at hokx
      have hob := one_bd hokx h0 h1
      obtain ⟨o1, o2, o3, o4⟩ := hokx
      simp only at o1 o2 o3 o4 hob
      have hrb := rel_bd o3 h0 h1
      have hwb := within_bd (l := ls.take k) (fun x hx => HOK.out x (List.mem_of_mem_take hx)) h0 h1
      have hwl : ((ls.take k).length : Int) ≤ 8 := by rw [List.length_take]; omega
      have hws := within_take r ls k hkl
      rw [← hx] at hws
      simp only at hws
      obtain ⟨S, hS⟩ : ∃ S, S = within r (ls.take k) := ⟨_, rfl⟩
      rw [← hS] at hws hwb ⊢
      have hS0 : 0 ≤ S := hwb.1
      have hS1 : S ≤ 8000000000000000 := by have := hwb.2; omega
      obtain ⟨q, hq⟩ : ∃ q, q = (r + p - 1) / p := ⟨_, rfl⟩
      rw [← hq] at hob hrb hws
      have HWS := hidden hws; have HQE := hidden hq.symm
      obtain ⟨M, hM⟩ : ∃ M, M = c * q := ⟨_, rfl⟩
      rw [← hM] at hob
      obtain ⟨hM0, hM1⟩ := hob
      have HM := hidden hM
      have hp0 : p ≠ 0 := by omega
      clear hws hq hwb hwl hS hc hv hx hM
      go_wp2_with fail
      go_roundw
      case rel =>
        refine ⟨k + 1, by omega, by go_num, ?_, hidden (HB.out.alloc HB.out.size _)⟩
        rw [HWS.out, HQE.out, ← HM.out, wrap_id M (by omega), wrap_id (S + M) (by omega)]
      case measure => simp [intOf]; omega
    · have hli : ¬ (k : Int) < (N : Int) := by omega
      have hkN : k = ls.length := by rw [← HN.out]; omega
      have HK := hidden hkN
      clear hkN
      go_wp2_with fail
      rw [HK.out, List.take_length, ← HR.out]
      go_ret
      exact ⟨rfl, HB.out⟩

theorem ret_ib {a a' : Int} {b b' : Bool} (h : a = a') (h' : b = b') : Ending.returned (.tuple #[.int .i64 a, .bool b]) = .returned (.tuple #[.int .i64 a', .bool b']) := by rw [h, h']

theorem resp_step {D : Int → Int} {dl r : Int} {f : Nat} (hm : ∀ a b, a ≤ b → D a ≤ D b) (hf : dl - r < f) (hr : r ≤ D r) (hle : r ≤ dl) (hne : D r ≠ r) :
    ∃ f', f = f' + 1 ∧ respG D dl f r = respG D dl f' (D r) ∧ dl - D r < f' ∧ D r ≤ D (D r) ∧ r < D r := by
  obtain ⟨f', rfl⟩ : ∃ f', f = f' + 1 := ⟨f - 1, by omega⟩
  refine ⟨f', rfl, ?_, by omega, hm _ _ hr, by omega⟩
  rw [respG, if_pos hle, if_neg hne]

set_option maxRecDepth 100000 in
set_option maxHeartbeats 4000000 in
theorem rates_respond {base : Nat} (c dl : Int) (ls : List (Int × Int)) (v : Value) (w : World) (hr : w.ownsRow base 128 2 v ls.length (ls.flatMap ldC)) (hok : ∀ x ∈ ls, LdOk x) (h8 : ls.length ≤ 8) (hc1 : 1 ≤ c) (hc2 : c ≤ 1000000000) (hd1 : 1 ≤ dl) (hd2 : dl ≤ 1000000) :
    Calls Tryz.prog 55 #[.int .i64 c, v, .int .i64 dl] w fun e w' => e = .returned (.tuple #[.int .i64 (respT (fun r => c + within r ls) dl), .bool (decide (respT (fun r => c + within r ls) dl ≠ 0))]) ∧ Below w.heap.size w w' := by
  obtain ⟨va, vc, hv, hvc, _⟩ := row_shape hr
  subst hv
  obtain ⟨D, hD⟩ : ∃ D : Int → Int, D = fun r => c + within r ls := ⟨_, rfl⟩
  have hDr : ∀ r, D r = c + within r ls := fun r => by rw [hD]
  have hmono : ∀ a b, a ≤ b → D a ≤ D b := fun a b h => by have := within_mono hok h; rw [hDr, hDr]; omega
  have hbd : ∀ r, 0 ≤ r → r ≤ 1000000 → 1 ≤ D r ∧ D r ≤ 9000000000000000 := fun r a b => by have := within_bd hok a b; rw [hDr]; omega
  rw [← hD]
  obtain ⟨R, hR⟩ : ∃ R, R = respT D dl := ⟨_, rfl⟩
  rw [← hR]
  have HW := hidden (fun (r : Int) (w' : World) (hb : Below w.heap.size w w') (a : 0 ≤ r) (b : r ≤ 1000000) => rates_within r ls _ w' (ownsRow_chg hr (Chg.ofBelow (S := fun _ => False) hb) (fun _ _ => id)) hok h8 a b)
  have HDR := hidden hDr; have HMO := hidden hmono; have HBD := hidden hbd; have HR := hidden hR
  obtain ⟨N, hN⟩ : ∃ N, N = ls.length := ⟨_, rfl⟩
  rw [← hN] at HW ⊢
  clear hD hDr hmono hbd hR hr hok h8 hvc hN
  go_enter Tryz.func55, Tryz.ntmps55
  go_wp2_with fail
  go_loopw [8] (fun i wr => ∃ (r : Int) (f : Nat), i = .int .i64 r ∧ 1 ≤ r ∧ r ≤ 9000000000000000 ∧ Hid (R = respG D dl f r ∧ dl - r < f ∧ r ≤ D r) ∧ Hid (Below w.heap.size w wr)) (fun i _ => (dl + 1 - intOf i).toNat)
  case atStart =>
    exact ⟨1, dl.toNat + 1, rfl, by omega, by omega, hidden ⟨HR.out, by omega, (HBD.out 1 (by omega) (by omega)).1⟩, Below.refl _ _⟩
  case round =>
    clear HR
    obtain ⟨r, f, rfl, h1, h2, HF, HB⟩ := hrel
    by_cases hle : r ≤ dl
    · have HWR := hidden (HW.out r wr HB.out (by omega) (by omega))
      obtain ⟨x, hx⟩ : ∃ x, x = within r ls := ⟨_, rfl⟩
      rw [← hx] at HWR
      have hDx := HDR.out r
      rw [← hx] at hDx
      have hbd := HBD.out r (by omega) (by omega)
      have hb1 : 1 ≤ c + x := by omega
      have hb2 : c + x ≤ 9000000000000000 := by omega
      have HDX := hidden hDx
      clear hDx hx hbd
      go_wp2_with fail
      refine HWR.out.mono ?_
      rintro e w2 ⟨rfl, hb⟩
      have HB2 := hidden (HB.out.trans (hb.mono HB.out.size))
      clear hb HWR
      by_cases he : c + x = r
      · have hfin : Hid (R = r) := by
          show R = r
          obtain ⟨a, b, _⟩ := HF.out
          obtain ⟨f', rfl⟩ : ∃ f', f = f' + 1 := ⟨f - 1, by omega⟩
          rw [a, respG, if_pos hle, if_pos (by rw [HDX.out]; exact he)]
        have he' : (c + x == r) = true := by simp [he]
        have HE := hidden he
        clear he
        go_wp2_with fail
        exact bodyPost_ret (v := .tuple #[.int .i64 r, .bool true]) (by simp [results, Tryz.results55, go_sem]) rfl ⟨ret_ib hfin.out.symm (by rw [hfin.out]; exact (decide_eq_true (by omega)).symm), HB2.out⟩
      · have he' : (c + x == r) = false := by simp [he]
        obtain ⟨a, b, cc⟩ := HF.out
        have hst := resp_step HMO.out b cc hle (by rw [HDX.out]; exact he)
        rw [HDX.out] at hst
        have HST := hidden hst; have HA := hidden a
        clear hst a b cc HF
        go_wp2_with fail
        go_roundw
        case rel =>
          obtain ⟨f', rfl, s1, s2, s3, s4⟩ := HST.out
          exact ⟨c + x, f', rfl, hb1, hb2, hidden ⟨by rw [HA.out, s1], s2, s3⟩, HB2⟩
        case measure =>
          obtain ⟨f', rfl, s1, s2, s3, s4⟩ := HST.out
          simp [intOf]; omega
    · have hfin : Hid (R = 0) := by
        show R = 0
        obtain ⟨a, b, _⟩ := HF.out
        rw [a]
        cases f with
        | zero => rfl
        | succ f => rw [respG, if_neg hle]
      clear HF
      go_wp2_with fail
      exact bodyPost_ret (v := .tuple #[.int .i64 0, .bool false]) (by simp [results, Tryz.results55, go_sem]) rfl ⟨ret_ib hfin.out.symm (by rw [hfin.out]; rfl), HB.out⟩

end Go.Proofs.YtcphhbofjkenaaaGreatDoor

namespace Go.Proofs.YtcphhbofjkenaaaGreatDoor
open Go Go.RowKit
set_option linter.unusedVariables false
set_option linter.unusedSimpArgs false

def ldz : Value := .agg #[.int .i64 0, .int .i64 0]
theorem Tryz.infoLd : (Tryz.prog.info? 128).map (fun i => (i.zero, i.size, i.bytes)) = some (some ldz, 2, 16) := by kernel_rfl

theorem ld_cells {w : World} {base g n cap : Nat} {ls : List (Int × Int)} (hr : w.ownsRow base 128 2 (.slice (some ⟨g, 0, none⟩) n cap) n (ls.flatMap ldC)) {k : Nat} (hk : k < ls.length) (hn : ls.length = n) :
    w.cell? ⟨g, k * 2, none⟩ = some (.int .i64 (costAt ls k)) ∧ w.cell? ⟨g, k * 2 + 1, none⟩ = some (.int .i64 (perAt ls k)) := by
  obtain ⟨g', cap', hv, _, hg, _, _, hc⟩ := row_cells hr (by omega)
  obtain ⟨rfl, rfl⟩ : g = g' ∧ cap = cap' := by simpa using hv
  constructor
  · refine hc _ _ ?_
    have := flat_get ldC 2 (fun _ => rfl) ls k 0 hk (by omega)
    rw [Nat.add_zero] at this
    rw [this, costAt_get hk]; rfl
  · refine hc _ _ ?_
    rw [flat_get ldC 2 (fun _ => rfl) ls k 1 hk (by omega), perAt_get hk]; rfl

theorem ldC_one (ls : List (Int × Int)) : ∀ u ∈ ls.flatMap ldC, u.oneCell' = true := by
  intro u hu
  obtain ⟨x, _, hu⟩ := List.mem_flatMap.1 hu
  simp [ldC] at hu
  rcases hu with rfl | rfl <;> rfl

set_option maxRecDepth 100000 in
set_option maxHeartbeats 8000000 in
theorem rates_ahead {base : Nat} (ls : List (Int × Int)) (g n cap K : Nat) (w : World) (hr : w.ownsRow base 128 2 (.slice (some ⟨g, 0, none⟩) n cap) n (ls.flatMap ldC)) (hn : ls.length = n) (h8 : n ≤ 8) (hK : K < n) :
    Calls Tryz.prog 54 #[.slice (some ⟨g, 0, none⟩) n cap, .int .i64 K] w fun e w' => ∃ ua uc, e = .returned (.slice ua (aheadP ls K n).length uc) ∧ w'.ownsRow w.heap.size 128 2 (.slice ua (aheadP ls K n).length uc) (aheadP ls K n).length ((aheadP ls K n).flatMap ldC) ∧ Below w.heap.size w w' := by
  obtain ⟨i0, hi, hz0, hz1, hz2⟩ := info_parts Tryz.infoLd
  have HI := hidden (And.intro hi (And.intro hz0 (And.intro hz1 hz2)))
  obtain ⟨g', cap', hv, _, hg, hcap, _, _⟩ := row_cells hr (by omega)
  obtain ⟨rfl, rfl⟩ : g = g' ∧ cap = cap' := by simpa using hv
  have HRW := hidden hr; have HN := hidden hn
  have HRB := hidden (fun (w' : World) (hb : Below w.heap.size w w') => ownsRow_chg hr (Chg.ofBelow (S := fun _ => False) hb) (fun _ _ => id))
  have hKi : (K : Int) < (n : Int) := by omega
  have hK0 : (0 : Int) ≤ (K : Int) := by omega
  obtain ⟨q, hq⟩ : ∃ q, q = perAt ls K := ⟨_, rfl⟩
  have HQ := hidden hq
  clear hr hn hv hi hz0 hz1 hz2 hq
  go_enter Tryz.func54, Tryz.ntmps54
  go_wp2_with fail
  go_loopw [5, 10] (fun s i wr => ∃ (k : Nat) (ua : Option Addr) (m uc : Nat), k ≤ n ∧ i = .int .i64 k ∧ s = .slice ua m uc ∧ Hid (m = (aheadP ls K k).length ∧ wr.ownsRow w.heap.size 128 2 (.slice ua m uc) m ((aheadP ls K k).flatMap ldC)) ∧ Hid (Below w.heap.size w wr)) (fun _ i _ => n - (intOf i).toNat)
  case atStart => exact ⟨0, none, 0, 0, Nat.zero_le _, rfl, rfl, hidden ⟨rfl, rfl, Or.inl ⟨rfl, rfl⟩⟩, Below.refl _ _⟩
  case round =>
    obtain ⟨k, ua, m, uc, hk, rfl, rfl, HU, HB⟩ := hrel
    by_cases hlt : k < n
    · have hli : (k : Int) < (n : Int) := by omega
      have hl0 : (0 : Int) ≤ (k : Int) := by omega
      have hkl : k < ls.length := by rw [HN.out]; exact hlt
      have hKl : K < ls.length := by rw [HN.out]; exact hK
      obtain ⟨c, hc⟩ : ∃ c, c = costAt ls k := ⟨_, rfl⟩
      obtain ⟨p, hp⟩ : ∃ p, p = perAt ls k := ⟨_, rfl⟩
      have e0 := ld_cells (HRB.out wr HB.out) hkl HN.out
      rw [← hc, ← hp] at e0
      obtain ⟨e0, e1⟩ := e0
      obtain ⟨X, hX⟩ : ∃ X : World, X = wr.alloc (.cells #[.int .i64 c, .int .i64 p] 128 (0, 0)) := ⟨_, rfl⟩
      obtain ⟨lb, hlb⟩ : ∃ lb, lb = wr.heap.size := ⟨_, rfl⟩
      have hbX : Below w.heap.size w X := by rw [hX]; exact HB.out.alloc HB.out.size _
      have hkX : Blk X lb #[.int .i64 c, .int .i64 p] 128 := by rw [hX, hlb]; exact blk_new wr _ _
      have hrX : X.ownsRow w.heap.size 128 2 (.slice ua m uc) m ((aheadP ls K k).flatMap ldC) := by rw [hX]; exact HU.out.2.alloc _
      have x0 : X.cell? ⟨lb, 0, none⟩ = some (.int .i64 c) := hkX.cell 0 _ rfl
      have x1 : X.cell? ⟨lb, 1, none⟩ = some (.int .i64 p) := hkX.cell 1 _ rfl
      have f1 := (ld_cells (HRB.out X hbX) hKl HN.out).2
      rw [← HQ.out] at f1
      have hlbX := hkX.lt
      have hgX : g < X.heap.size := Nat.lt_of_lt_of_le hg hbX.size
      have HX := hidden hX; have HLB := hidden hlb; have HBX := hidden hbX; have HKX := hidden hkX; have HRX := hidden hrX; have HC := hidden hc; have HP := hidden hp; have HM := hidden HU.out.1
      have hml : m ≤ 8 := by have := HU.out.1; have := aheadP_len ls K k; omega
      clear hX hlb hbX hkX hrX hc hp HU
      go_upto_region 5 with fail
      rw [← HX.out, ← HLB.out]
      clear e0 e1
      have hgo : goesP ls k K = (decide (p < q) || (decide (p = q) && decide (k < K))) := by rw [goesP, HP.out, HQ.out]
      by_cases hyes : goesP ls k K = true
      · have hstep : aheadP ls K (k + 1) = aheadP ls K k ++ [(c, p)] := by rw [aheadP, if_pos hyes, HC.out, HP.out]
        have HST := hidden hstep
        rw [hgo] at hyes
        have fin : ∀ V : World, Below X.heap.size X V → ∃ Z : World, True := fun V h => ⟨V, trivial⟩
        clear hstep hgo fin
        by_cases hpq : p < q
        · have hd : decide (p < q) = true := decide_eq_true hpq
          clear hyes
          go_wp2_with fail
          go_quiet (fail)
          have hbq : Below X.heap.size X (X.drewN nq) := ⟨rfl, rfl, rfl, Nat.le_refl _, fun _ _ => rfl⟩
          obtain ⟨V, hV⟩ : ∃ V : World, V = X.drewN nq := ⟨_, rfl⟩
          rw [← hV] at hbq
          rw [← hV]
          have hkV := HKX.out.sub hbq HKX.out.lt
          have v0 : V.cell? ⟨lb, 0, none⟩ = some (.int .i64 c) := hkV.cell 0 _ rfl
          have v1 : V.cell? ⟨lb, 1, none⟩ = some (.int .i64 p) := hkV.cell 1 _ rfl
          have hrV := ownsRow_chg HRX.out (Chg.ofBelow (S := fun _ => False) hbq) (fun _ _ => id)
          have hbV := HBX.out.trans (hbq.mono HBX.out.size)
          have HRV := hidden (hrV.alloc (.cells #[.int .i64 c, .int .i64 p] 128 (0, 0))); have HBV := hidden hbV
          have HNW := hidden (newsA V #[.int .i64 c, .int .i64 p] 128)
          have HSZ := hidden (show w.heap.size ≤ (V.alloc (.cells #[.int .i64 c, .int .i64 p] 128 (0, 0))).heap.size by have := hbV.size; simp; omega)
          have HON := hidden (ldC_one [(c, p)])
          have HQ1 := hidden (And.intro (show m + 1 ≤ maxLen by unfold maxLen; omega) (show (m + 1) * 16 ≤ 140737488355328 by omega))
          have HHS := hidden (show (V.alloc (.cells #[.int .i64 c, .int .i64 p] 128 (0, 0))).heap.size = V.heap.size + 1 by simp)
          have hlbV := hkV.lt
          clear hkV hrV hbV hbq hV x0 x1 f1
          go_wp2_with (at_builtin; refine wpList_append_lies _ rfl _ _ 125 rfl w.heap.size 128 i0 ldz 2 16 Tryz.underlying125 HI.out.1 HI.out.2.1 HI.out.2.2.1 HI.out.2.2.2 rfl (by decide) (.slice ua m uc) m ((aheadP ls K k).flatMap ldC) rfl HRV.out ⟨V.heap.size, 0, none⟩ 1 1 [.int .i64 c, .int .i64 p] rfl rfl HNW.out HON.out (by decide) HQ1.out.1 HQ1.out.2 HSZ.out (V.heap.size + 1) HHS.out ?_)
          intro g2 cap2 w2 hr2 hg2 hat2 hlt2
          have hb2 : Below w.heap.size w w2 := (HBV.out.alloc HBV.out.size _).grown hg2 HSZ.out (fun b hb => own_base HRV.out hb)
          have HR2 := hidden hr2; have HB2 := hidden hb2
          clear hr2 hg2 hat2 hlt2 hb2
          go_wp2_with fail
          go_roundw
          case rel =>
            refine ⟨k + 1, some ⟨g2, 0, none⟩, m + 1, cap2, by omega, by go_num, rfl, hidden ⟨?_, ?_⟩, HB2⟩
            · rw [HST.out, List.length_append, ← HM.out]; rfl
            · rw [HST.out, List.flatMap_append]; exact HR2.out
          case measure => simp [intOf]; omega
        · have hd : decide (p < q) = false := decide_eq_false hpq
          rw [hd] at hyes
          have hpe : p = q := by have := hyes; simp at this; exact this.1
          have hkK : k < K := by have := hyes; simp at this; exact this.2
          have hd2 : (p == q) = true := by simp [hpe]
          have hkKi : (k : Int) < (K : Int) := by omega
          have hd3 : decide ((k : Int) < (K : Int)) = true := decide_eq_true hkKi
          have HPE := hidden hpe
          clear hyes hpe
          go_wp2_with fail
          go_quiet (fail)
          have hbq : Below X.heap.size X (X.drewN nq) := ⟨rfl, rfl, rfl, Nat.le_refl _, fun _ _ => rfl⟩
          obtain ⟨V, hV⟩ : ∃ V : World, V = X.drewN nq := ⟨_, rfl⟩
          rw [← hV] at hbq
          rw [← hV]
          have hkV := HKX.out.sub hbq HKX.out.lt
          have v0 : V.cell? ⟨lb, 0, none⟩ = some (.int .i64 c) := hkV.cell 0 _ rfl
          have v1 : V.cell? ⟨lb, 1, none⟩ = some (.int .i64 p) := hkV.cell 1 _ rfl
          have hrV := ownsRow_chg HRX.out (Chg.ofBelow (S := fun _ => False) hbq) (fun _ _ => id)
          have hbV := HBX.out.trans (hbq.mono HBX.out.size)
          have HRV := hidden (hrV.alloc (.cells #[.int .i64 c, .int .i64 p] 128 (0, 0))); have HBV := hidden hbV
          have HNW := hidden (newsA V #[.int .i64 c, .int .i64 p] 128)
          have HSZ := hidden (show w.heap.size ≤ (V.alloc (.cells #[.int .i64 c, .int .i64 p] 128 (0, 0))).heap.size by have := hbV.size; simp; omega)
          have HON := hidden (ldC_one [(c, p)])
          have HQ1 := hidden (And.intro (show m + 1 ≤ maxLen by unfold maxLen; omega) (show (m + 1) * 16 ≤ 140737488355328 by omega))
          have HHS := hidden (show (V.alloc (.cells #[.int .i64 c, .int .i64 p] 128 (0, 0))).heap.size = V.heap.size + 1 by simp)
          have hlbV := hkV.lt
          clear hkV hrV hbV hbq hV x0 x1 f1
          go_wp2_with (at_builtin; refine wpList_append_lies _ rfl _ _ 125 rfl w.heap.size 128 i0 ldz 2 16 Tryz.underlying125 HI.out.1 HI.out.2.1 HI.out.2.2.1 HI.out.2.2.2 rfl (by decide) (.slice ua m uc) m ((aheadP ls K k).flatMap ldC) rfl HRV.out ⟨V.heap.size, 0, none⟩ 1 1 [.int .i64 c, .int .i64 p] rfl rfl HNW.out HON.out (by decide) HQ1.out.1 HQ1.out.2 HSZ.out (V.heap.size + 1) HHS.out ?_)
          intro g2 cap2 w2 hr2 hg2 hat2 hlt2
          have hb2 : Below w.heap.size w w2 := (HBV.out.alloc HBV.out.size _).grown hg2 HSZ.out (fun b hb => own_base HRV.out hb)
          have HR2 := hidden hr2; have HB2 := hidden hb2
          clear hr2 hg2 hat2 hlt2 hb2
          go_wp2_with fail
          go_roundw
          case rel =>
            refine ⟨k + 1, some ⟨g2, 0, none⟩, m + 1, cap2, by omega, by go_num, rfl, hidden ⟨?_, ?_⟩, HB2⟩
            · rw [HST.out, List.length_append, ← HM.out]; rfl
            · rw [HST.out, List.flatMap_append]; exact HR2.out
          case measure => simp [intOf]; omega
      · have hstep : aheadP ls K (k + 1) = aheadP ls K k := by rw [aheadP, if_neg hyes]
        have HST := hidden hstep
        rw [hgo] at hyes
        clear hstep hgo
        have hpq : ¬ p < q := fun h => hyes (by simp [h])
        have hd : decide (p < q) = false := decide_eq_false hpq
        by_cases hpe : p = q
        · have hkK : ¬ k < K := fun h => hyes (by simp [h, hpe])
          have hd2 : (p == q) = true := by simp [hpe]
          have hkKi : ¬ (k : Int) < (K : Int) := by omega
          have hd3 : decide ((k : Int) < (K : Int)) = false := decide_eq_false hkKi
          have HPE := hidden hpe
          clear hyes hpe
          go_wp2_with fail
          go_quiet (fail)
          have hbq : Below X.heap.size X (X.drewN nq) := ⟨rfl, rfl, rfl, Nat.le_refl _, fun _ _ => rfl⟩
          have HRV := hidden (ownsRow_chg HRX.out (Chg.ofBelow (S := fun _ => False) hbq) (fun _ _ => id))
          have HBV := hidden (HBX.out.trans (hbq.mono HBX.out.size))
          clear hbq x0 x1 f1
          go_wp2_with fail
          go_roundw
          case rel => exact ⟨k + 1, ua, m, uc, by omega, by go_num, rfl, hidden ⟨by rw [HST.out, ← HM.out], by rw [HST.out]; exact HRV.out⟩, HBV⟩
          case measure => simp [intOf]; omega
        · have hd2 : (p == q) = false := by simp [hpe]
          clear hyes
          go_wp2_with fail
          go_quiet (fail)
          have hbq : Below X.heap.size X (X.drewN nq) := ⟨rfl, rfl, rfl, Nat.le_refl _, fun _ _ => rfl⟩
          have HRV := hidden (ownsRow_chg HRX.out (Chg.ofBelow (S := fun _ => False) hbq) (fun _ _ => id))
          have HBV := hidden (HBX.out.trans (hbq.mono HBX.out.size))
          clear hbq x0 x1 f1
          go_wp2_with fail
          go_roundw
          case rel => exact ⟨k + 1, ua, m, uc, by omega, by go_num, rfl, hidden ⟨by rw [HST.out, ← HM.out], by rw [HST.out]; exact HRV.out⟩, HBV⟩
          case measure => simp [intOf]; omega
    · have hli : ¬ (k : Int) < (n : Int) := by omega
      obtain rfl : k = n := by omega
      go_wp2_with fail
      obtain ⟨h1, h2⟩ := HU.out
      subst h1
      go_ret
      exact ⟨ua, uc, rfl, h2, HB.out⟩

end Go.Proofs.YtcphhbofjkenaaaGreatDoor

namespace Go.Proofs.YtcphhbofjkenaaaGreatDoor
open Go Go.RowKit
set_option linter.unusedVariables false
set_option linter.unusedSimpArgs false
attribute [local go_sem] quietG

end Go.Proofs.YtcphhbofjkenaaaGreatDoor

namespace Go.Proofs.YtcphhbofjkenaaaGreatDoor
open Go Go.RowKit
set_option linter.unusedVariables false
set_option linter.unusedSimpArgs false
attribute [local go_sem] quietG

end Go.Proofs.YtcphhbofjkenaaaGreatDoor

namespace Go.Proofs.YtcphhbofjkenaaaGreatDoor
open Go Go.RowKit
set_option linter.unusedVariables false
set_option linter.unusedSimpArgs false

abbrev WsOk (ws : List RW) : Prop := ∀ x ∈ ws, x.inf.Wt 1 ∧ ∃ a n c, x.items = .slice a n c

end Go.Proofs.YtcphhbofjkenaaaGreatDoor
