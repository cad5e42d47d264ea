/- The program: reading a word. -/
import Derived.Test.YtcphhbofjkenaaaGreatDoorM00
import Derived.Test.YtcphhbofjkenaaaGreatDoorM21
import Derived.Test.YtcphhbofjkenaaaGreatDoorM22

namespace Go.Proofs.YtcphhbofjkenaaaGreatDoor
open Go.RowKit
set_option linter.unusedVariables false
set_option linter.unusedSimpArgs false

def PE.use (e : PE) : Inf := if e.var = true then opInf 28 else (opInf 33).then e.inf
def PE.op (e : PE) : Int := if e.var = true then 28 else 33

theorem opFrom_lt (s : ByteArray) : ∀ (l : List (ByteArray × Int × Int)) (j k : Nat), opFrom s l j = some k → k < j + l.length
  | [], j, k, h => by cases h
  | x :: l, j, k, h => by
    unfold opFrom at h
    split at h
    · cases h; simp
    · have := opFrom_lt s l (j + 1) k h; simp; omega
theorem opFind_lt {s : ByteArray} {k : Nat} (h : opFind s = some k) : k < 35 := by
  have := opFrom_lt s opTab 0 k h; simpa [opTab] using this

set_option maxHeartbeats 4000000 in
theorem def_word_own {w0 w : World} {rb bb db : Nat} {rc : RC} {ev bcv dcv bv : Value} {es : List PE} {nv nt : Int} {pc dc : List Int} {tk : Int} {bs : List PB} {b : PB} {kn : Inf}
    (h : DS w0 w rb rc bb db ev bcv dcv bv es nv nt pc dc tk (bs ++ [b]) kn) (s : ByteArray) (x : PE) (hx : lastP es s es.length = some x) (he : x.inf.Ok) (hu : x.use.Ok) (hbd : b.does.Ok) (hes : es.length ≤ 1000) (hl : bs.length ≤ 10000000) (hc : dc.length ≤ 10000000) :
    Calls Tryz.prog 164 #[.pointer (some ⟨db, 0, none⟩), .string s] w fun e w' => e = .returned (.int .i64 0) ∧ (∃ dcv', DS w0 w' rb rc bb db ev bcv dcv' bv es nv nt pc (dc ++ [x.op, x.place]) tk (bs ++ [b.add x.use]) kn) := by
  obtain ⟨c0, c1, c2, c3⟩ := h.def
  have H1 := hidden (book_last s h.sys hes)
  rw [hx] at H1
  have HD := hidden h
  have HOK := hidden hbd
  clear h hbd hx c1 c2 c3
  simp only [lastRes, PE.val] at H1
  go_enter Tryz.func164, Tryz.ntmps164
  go_wp2_with fail
  refine H1.out.mono ?_
  rintro e w1 ⟨rfl, hb1⟩
  have HD1 := hidden (HD.out.below hb1)
  clear H1 hb1 HD
  go_wp2_with fail
  have hdA := HD1.out.below ((Below.refl _ _).alloc (Nat.le_refl _) (.cells #[.string x.name, .bool x.var, .int .i64 x.place, .int .i64 x.inf.need, .int .i64 x.inf.net, .int .i64 x.inf.high, .int .i64 x.inf.steps, .bool (!x.inf.str)] 153 (0, 0)))
  have hkA := blk_new w1 #[.string x.name, .bool x.var, .int .i64 x.place, .int .i64 x.inf.need, .int .i64 x.inf.net, .int .i64 x.inf.high, .int .i64 x.inf.steps, .bool (!x.inf.str)] 153
  refine (entry_use x _ hdA.tab he).mono ?_
  rintro e w2 ⟨rfl, hb2⟩
  have hk2 := hkA.sub hb2 (by simp)
  have p2 : w2.cell? ⟨w1.heap.size, 2, none⟩ = some (.int .i64 x.place) := hk2.cell 2 _ rfl
  have hl2 := hk2.lt
  have HD2 := hidden (hdA.below hb2)
  clear hdA hkA hb2 hk2 HD1
  obtain ⟨y, hy⟩ : ∃ y, y = x.use := ⟨_, rfl⟩
  obtain ⟨o, ho⟩ : ∃ o, o = x.op := ⟨_, rfl⟩
  show _
  rw [show (if x.var then opInf 28 else (opInf 33).then x.inf) = y from hy.symm, show (if x.var then (28 : Int) else 33) = o from ho.symm]
  have HY := hidden hy; have HO := hidden ho
  rw [← hy] at hu
  clear hy ho
  simp only [Inf.tm]
  go_wp2_with fail
  have hdB := HD2.out.below ((Below.refl _ _).alloc (Nat.le_refl _) (.cells #[.int .i64 y.need, .int .i64 y.net, .int .i64 y.high, .int .i64 y.steps, .bool (!y.str)] 151 (0, 0)))
  have hkB := blk_new w2 #[.int .i64 y.need, .int .i64 y.net, .int .i64 y.high, .int .i64 y.steps, .bool (!y.str)] 151
  obtain ⟨h1, hs1⟩ := hdB.src1 x.place
  have hsz : (w2.alloc (.cells #[.int .i64 y.need, .int .i64 y.net, .int .i64 y.high, .int .i64 y.steps, .bool (!y.str)] 151 (0, 0))).heap.size = w2.heap.size + 1 := by simp
  rw [hsz] at hs1
  obtain ⟨n1, n2, n3, n4, n5, n6, n7⟩ := HD2.out.there (Nat.le_refl _)
  refine (def_emit h1 o _ [x.place] hs1 (by omega)).mono ?_
  rintro e w3 ⟨rfl, ⟨v1, h3⟩, hc3⟩
  have hk3 := (hkB.alloc _).chg hc3 (fun e => e.elim (fun e => n2 e.symm) (fun e => n6 e))
  have i0 := hk3.cell 0 _ rfl; have i1 := hk3.cell 1 _ rfl; have i2 := hk3.cell 2 _ rfl; have i3 := hk3.cell 3 _ rfl; have i4 := hk3.cell 4 _ rfl
  simp only [List.getElem_toArray, List.getElem_cons_succ, List.getElem_cons_zero] at i0 i1 i2 i3 i4
  have HD3 := hidden h3
  clear hdB hkB h1 hs1 hsz n1 n2 n3 n4 n5 n6 n7 h3 hc3 hk3 HD2 p2
  go_wp2_with fail
  refine (def_add HD3.out y hu HOK.out (by omega)).mono ?_
  rintro e w4 ⟨rfl, h4, _⟩
  have HD4 := hidden h4
  clear h4 HD3
  go_wp2_with fail
  go_ret
  exact ⟨rfl, v1, by rw [← HO.out, ← HY.out]; exact HD4.out⟩

set_option maxHeartbeats 4000000 in
theorem def_word_no {w0 w : World} {rb bb db : Nat} {rc : RC} {ev bcv dcv bv : Value} {es : List PE} {nv nt : Int} {pc dc : List Int} {tk : Int} {bs : List PB} {b : PB} {kn : Inf}
    (h : DS w0 w rb rc bb db ev bcv dcv bv es nv nt pc dc tk (bs ++ [b]) kn) (s : ByteArray) (hx : lastP es s es.length = none) (hf : opFind s = none) (hes : es.length ≤ 1000) (hl : bs.length ≤ 10000000) (hc : dc.length ≤ 10000000) :
    Calls Tryz.prog 164 #[.pointer (some ⟨db, 0, none⟩), .string s] w fun e w' => e = .returned (.int .i64 3) ∧ DS w0 w' rb rc bb db ev bcv dcv bv es nv nt pc dc tk (bs ++ [b]) kn := by
  obtain ⟨c0, c1, c2, c3⟩ := h.def
  have H1 := hidden (book_last s h.sys hes)
  rw [hx] at H1
  have HD := hidden h
  have HF := hidden hf
  clear h hx c1 c2 c3 hf
  simp only [lastRes, PE.val, PE.zero, Inf.zero] at H1
  go_enter Tryz.func164, Tryz.ntmps164
  go_wp2_with fail
  refine H1.out.mono ?_
  rintro e w1 ⟨rfl, hb1⟩
  have HD1 := hidden (HD.out.below hb1)
  clear H1 hb1 HD
  go_wp2_with fail
  have hdA := HD1.out.below ((Below.refl _ _).alloc (Nat.le_refl _) (.cells #[.string ⟨#[]⟩, .bool false, .int .i64 0, .int .i64 0, .int .i64 0, .int .i64 0, .int .i64 0, .bool (!true)] 153 (0, 0)))
  have H2 := hidden (code_find s _ hdA.tab)
  rw [HF.out] at H2
  refine H2.out.mono ?_
  rintro e w2 ⟨rfl, hb2⟩
  have HD2 := hidden (hdA.below hb2)
  clear hdA hb2 H2 HD1
  simp only [opRes]
  go_wp2_with fail
  go_ret
  exact ⟨rfl, HD2.out⟩

set_option maxHeartbeats 4000000 in
theorem def_word_nest {w0 w : World} {rb bb db : Nat} {rc : RC} {ev bcv dcv bv : Value} {es : List PE} {nv nt : Int} {pc dc : List Int} {tk : Int} {bs : List PB} {b : PB} {kn : Inf}
    (h : DS w0 w rb rc bb db ev bcv dcv bv es nv nt pc dc tk (bs ++ [b]) kn) (s : ByteArray) (hx : lastP es s es.length = none) (hf : opFind s = some 27) (hdo : b.inDo = false) (hes : es.length ≤ 1000) (hl : bs.length ≤ 10000000) (hc : dc.length ≤ 10000000) :
    Calls Tryz.prog 164 #[.pointer (some ⟨db, 0, none⟩), .string s] w fun e w' => e = .returned (.int .i64 5) ∧ DS w0 w' rb rc bb db ev bcv dcv bv es nv nt pc dc tk (bs ++ [b]) kn := by
  obtain ⟨c0, c1, c2, c3⟩ := h.def
  have H1 := hidden (book_last s h.sys hes)
  rw [hx] at H1
  have HD := hidden h
  have HF := hidden hf
  clear h hx c1 c2 c3 hf
  simp only [lastRes, PE.val, PE.zero, Inf.zero] at H1
  go_enter Tryz.func164, Tryz.ntmps164
  go_wp2_with fail
  refine H1.out.mono ?_
  rintro e w1 ⟨rfl, hb1⟩
  have HD1 := hidden (HD.out.below hb1)
  clear H1 hb1 HD
  go_wp2_with fail
  have hdA := HD1.out.below ((Below.refl _ _).alloc (Nat.le_refl _) (.cells #[.string ⟨#[]⟩, .bool false, .int .i64 0, .int .i64 0, .int .i64 0, .int .i64 0, .int .i64 0, .bool (!true)] 153 (0, 0)))
  have H2 := hidden (code_find s _ hdA.tab)
  rw [HF.out] at H2
  refine H2.out.mono ?_
  rintro e w2 ⟨rfl, hb2⟩
  have hd2 := hdA.below hb2
  obtain ⟨g, cap, hv, hcap, hge, hg, hfr, hcell⟩ := hd2.last
  have H3 := hidden (def_inner hd2 (by omega) g cap hv hcap)
  have d1 : w2.cell? ⟨g, bs.length * 17 + 1, none⟩ = some (.bool b.inDo) := hcell 1 _ rfl
  rw [hdo] at d1
  have HD2 := hidden hd2
  clear hdA hb2 H2 HD1 hd2 hcell hfr
  simp only [opRes]
  go_wp2_with fail
  refine H3.out.mono ?_
  rintro e w3 ⟨rfl, hb3⟩
  replace d1 := (hb3.cell (p := ⟨g, bs.length * 17 + 1, none⟩) hg).trans d1
  have HD3 := hidden (HD2.out.below hb3)
  clear H3 hb3 HD2
  go_wp2_with fail
  go_ret
  exact ⟨rfl, HD3.out⟩

set_option maxHeartbeats 4000000 in
theorem def_word {w0 w : World} {rb bb db : Nat} {rc : RC} {ev bcv dcv bv : Value} {es : List PE} {nv nt : Int} {pc dc : List Int} {tk : Int} {bs : List PB} {b : PB} {kn : Inf}
    (h : DS w0 w rb rc bb db ev bcv dcv bv es nv nt pc dc tk (bs ++ [b]) kn) (s : ByteArray) (k : Nat) (hx : lastP es s es.length = none) (hf : opFind s = some k) (hdo : k ≠ 27 ∨ b.inDo = true) (hbd : b.does.Ok) (hes : es.length ≤ 1000) (hl : bs.length ≤ 10000000) (hc : dc.length ≤ 10000000) :
    Calls Tryz.prog 164 #[.pointer (some ⟨db, 0, none⟩), .string s] w fun e w' => e = .returned (.int .i64 0) ∧ (∃ dcv', DS w0 w' rb rc bb db ev bcv dcv' bv es nv nt pc (dc ++ [(k : Int)]) tk (bs ++ [b.add (opInf k)]) kn) := by
  have hk := opFind_lt hf
  have HOK := hidden hbd
  clear hbd
  obtain ⟨c0, c1, c2, c3⟩ := h.def
  have H1 := hidden (book_last s h.sys hes)
  rw [hx] at H1
  have HD := hidden h
  have HF := hidden hf
  clear h hx c1 c2 c3 hf
  simp only [lastRes, PE.val, PE.zero, Inf.zero] at H1
  go_enter Tryz.func164, Tryz.ntmps164
  go_wp2_with fail
  refine H1.out.mono ?_
  rintro e w1 ⟨rfl, hb1⟩
  have HD1 := hidden (HD.out.below hb1)
  clear H1 hb1 HD
  go_wp2_with fail
  have hdA := HD1.out.below ((Below.refl _ _).alloc (Nat.le_refl _) (.cells #[.string ⟨#[]⟩, .bool false, .int .i64 0, .int .i64 0, .int .i64 0, .int .i64 0, .int .i64 0, .bool (!true)] 153 (0, 0)))
  have H2 := hidden (code_find s _ hdA.tab)
  rw [HF.out] at H2
  refine H2.out.mono ?_
  rintro e w2 ⟨rfl, hb2⟩
  have hd2 := hdA.below hb2
  obtain ⟨g, cap, hv, hcap, hge, hg, hfr, hcell⟩ := hd2.last
  have H3 := hidden (def_inner hd2 (by omega) g cap hv hcap)
  have d1 : w2.cell? ⟨g, bs.length * 17 + 1, none⟩ = some (.bool b.inDo) := hcell 1 _ rfl
  have HD2 := hidden hd2
  clear hdA hb2 H2 HD1 hd2 hcell hfr
  simp only [opRes]
  have tail : ∀ w3, DS w0 w3 rb rc bb db ev bcv dcv bv es nv nt pc dc tk (bs ++ [b]) kn → True := fun _ _ => trivial
  clear tail
  by_cases h27 : k = 27
  · subst h27
    have hin : b.inDo = true := hdo.elim (fun e => absurd rfl e) id
    rw [hin] at d1
    go_wp2_with fail
    refine H3.out.mono ?_
    rintro e w3 ⟨rfl, hb3⟩
    replace d1 := (hb3.cell (p := ⟨g, bs.length * 17 + 1, none⟩) hg).trans d1
    have HD3 := hidden (HD2.out.below hb3)
    clear H3 hb3 HD2
    go_wp2_with fail
    refine (def_emit HD3.out 27 (.slice none 0 0) [] (Or.inl ⟨rfl, rfl⟩) (by omega)).mono ?_
    rintro e w4 ⟨rfl, ⟨v1, h4⟩, _⟩
    have HD4 := hidden h4
    clear h4 HD3 d1
    go_wp2_with fail
    refine (code_effect 27 w4 (by omega) HD4.out.tab).mono ?_
    rintro e w5 ⟨rfl, hb5⟩
    have HD5 := hidden (HD4.out.below hb5)
    clear HD4 hb5
    go_wp2_with fail
    refine (def_add HD5.out (opInf 27) (opInf_ok 27 (by omega)) HOK.out (by omega)).mono ?_
    rintro e w6 ⟨rfl, h6, _⟩
    have HD6 := hidden h6
    clear h6 HD5
    go_wp2_with fail
    go_ret
    exact ⟨rfl, v1, HD6.out⟩
  · have hkb : ((k : Int) == 27) = false := by rw [beq_eq_false_iff_ne]; omega
    have hk35 : (k : Int) < 35 := by omega
    have HK := hidden hk
    clear hk h27 H3 d1
    go_wp2_with fail
    refine (def_emit HD2.out k (.slice none 0 0) [] (Or.inl ⟨rfl, rfl⟩) (by omega)).mono ?_
    rintro e w4 ⟨rfl, ⟨v1, h4⟩, _⟩
    have HD4 := hidden h4
    clear h4 HD2
    go_wp2_with fail
    refine (code_effect k w4 HK.out HD4.out.tab).mono ?_
    rintro e w5 ⟨rfl, hb5⟩
    have HD5 := hidden (HD4.out.below hb5)
    clear HD4 hb5
    go_wp2_with fail
    refine (def_add HD5.out (opInf k) (opInf_ok k HK.out) HOK.out (by omega)).mono ?_
    rintro e w6 ⟨rfl, h6, _⟩
    have HD6 := hidden h6
    clear h6 HD5
    go_wp2_with fail
    go_ret
    exact ⟨rfl, v1, HD6.out⟩

end Go.Proofs.YtcphhbofjkenaaaGreatDoor

/- The document's words that are there, and the program's table: the same. -/
namespace Go.Proofs.YtcphhbofjkenaaaGreatDoor
open Go

theorem ba_data (s : ByteArray) : s.toList = s.data.toList := by
  have := ba_list s.data.toList
  simpa using this

theorem opFrom_some (s : ByteArray) : ∀ (l : List (ByteArray × Int × Int)) (j k : Nat), opFrom s l j = some k → ∃ i x, k = j + i ∧ l[i]? = some x ∧ x.1.toList = s.toList ∧ s.toList ≠ []
  | [], j, k, h => by cases h
  | x :: l, j, k, h => by
    unfold opFrom at h
    split at h
    · rename_i hc
      cases h
      exact ⟨0, x, rfl, rfl, by simpa using hc.1, by simpa using hc.2⟩
    · obtain ⟨i, y, h1, h2, h3, h4⟩ := opFrom_some s l (j + 1) k h
      exact ⟨i + 1, y, by omega, by simpa using h2, h3, h4⟩
theorem opFrom_none (s : ByteArray) : ∀ (l : List (ByteArray × Int × Int)) (j : Nat), opFrom s l j = none → ∀ x ∈ l, x.1.toList = s.toList → s.toList = []
  | [], j, h, x, hx, _ => (List.not_mem_nil hx).elim
  | y :: l, j, h, x, hx, e => by
    unfold opFrom at h
    split at h
    · cases h
    · rename_i hc
      rcases List.mem_cons.1 hx with rfl | hx
      · cases hs : (s.toList == []) with
        | true => simpa using hs
        | false => exact absurd ⟨by simpa using e, hs⟩ hc
      · exact opFrom_none s l (j + 1) h x hx e

theorem tab_op : ∀ k, k < 35 → (opTab.getD k (⟨#[]⟩, 0, 0)).1.data.toList ≠ [] → k < 28 ∧ thereL (opTab.getD k (⟨#[]⟩, 0, 0)).1.data.toList = ((opTab.getD k (⟨#[]⟩, 0, 0)).2.1, (opTab.getD k (⟨#[]⟩, 0, 0)).2.2, true) := by decide +kernel
theorem op_tab : ∀ r ∈ tab, r.1 ≠ [] ∧ ∃ x ∈ opTab, x.1.data.toList = r.1 := by decide +kernel
theorem i_op : ∀ k, k < 35 → ((opTab.getD k (⟨#[]⟩, 0, 0)).1.data.toList = [105] ↔ k = 27) := by decide +kernel

/-- The program's word is the document's. -/
theorem there_some {s : ByteArray} {k : Nat} (h : opFind s = some k) : thereS s = ((opTab.getD k (⟨#[]⟩, 0, 0)).2.1, (opTab.getD k (⟨#[]⟩, 0, 0)).2.2, true) ∧ k < 28 ∧ (s.toList = [105] ↔ k = 27) := by
  obtain ⟨i, x, h1, h2, h3, h4⟩ := opFrom_some s opTab 0 k h
  have hk := opFind_lt h
  obtain rfl : k = i := by omega
  have hx : opTab.getD k (⟨#[]⟩, 0, 0) = x := by simp [h2]
  have e : (opTab.getD k (⟨#[]⟩, 0, 0)).1.data.toList = s.toList := by rw [hx, ← ba_data]; exact h3
  obtain ⟨t1, t2⟩ := tab_op k hk (by rw [e]; exact h4)
  have t3 := i_op k hk
  rw [e] at t2 t3
  exact ⟨t2, t1, t3⟩
theorem there_none {s : ByteArray} (h : opFind s = none) : thereS s = (0, 0, false) := by
  unfold thereS thereL
  have : tab.find? (fun r => r.1 == s.toList) = none := by
    rw [List.find?_eq_none]
    intro r hr hc
    obtain ⟨n1, x, hx, e⟩ := op_tab r hr
    have hc' : r.1 = s.toList := by simpa using hc
    have := opFrom_none s opTab 0 h x hx (by rw [ba_data x.1, e, hc'])
    exact n1 (hc'.trans this)
  rw [this]
/-- What is known of it, too. -/
theorem there_inf {s : ByteArray} {k : Nat} (h : opFind s = some k) : opInf k = Inf.plain (thereS s).1 (thereS s).2.1 := by
  obtain ⟨t1, t2, t3⟩ := there_some h
  rw [t1]
  unfold opInf Inf.plain
  have : (k == 29) = false := by rw [beq_eq_false_iff_ne]; omega
  rw [this]; rfl

end Go.Proofs.YtcphhbofjkenaaaGreatDoor

/- The program's numbers are the document's. -/
namespace Go.Proofs.YtcphhbofjkenaaaGreatDoor
open Go

def numL : List UInt8 → Int → Option Int
  | [], n => some n
  | c :: r, n => if c.toNat < 48 ∨ 57 < c.toNat then none else numL r (sat n c.toNat)

theorem byt_data (s : ByteArray) (k : Nat) (h : k < s.size) : ∃ c, s.data.toList[k]? = some c ∧ c.toNat = byt s k := by
  refine ⟨s[k], ?_, byt_eq s k h⟩
  rw [Array.getElem?_toList, Array.getElem?_eq_getElem h]
  rfl

theorem numAt_list (s : ByteArray) : ∀ (f k : Nat) (n : Int), s.size ≤ k + f → numAt s f k n = numL (s.data.toList.drop k) n
  | 0, k, n, h => by
    have hl : s.data.toList.length = s.size := Array.length_toList
    rw [List.drop_eq_nil_of_le (by omega)]; rfl
  | f + 1, k, n, h => by
    have hl : s.data.toList.length = s.size := Array.length_toList
    unfold numAt
    by_cases hk : k < s.size
    · rw [if_pos hk]
      obtain ⟨c, hc, hb⟩ := byt_data s k hk
      have hd : s.data.toList.drop k = c :: s.data.toList.drop (k + 1) := by
        rw [List.drop_eq_getElem_cons (by omega)]
        rw [List.getElem?_eq_getElem (by omega)] at hc
        rw [Option.some.inj hc]
      rw [hd, numL, hb, numAt_list s f (k + 1) _ (by omega)]
    · rw [if_neg hk, List.drop_eq_nil_of_le (by omega)]; rfl

theorem numL_big : ∀ l : List UInt8, numL l 2147483649 = none ∨ numL l 2147483649 = some 2147483649
  | [] => Or.inr rfl
  | c :: r => by
    unfold numL
    by_cases h : c.toNat < 48 ∨ 57 < c.toNat
    · rw [if_pos h]; exact Or.inl rfl
    · rw [if_neg h]
      have : sat 2147483649 c.toNat = 2147483649 := by unfold sat; rw [if_pos (by omega)]
      rw [this]
      exact numL_big r

def UN (r : Option Int) : Lib.NumEnd Nat → Prop
  | .ok u => r = some (min (u : Int) 2147483649)
  | .syntax => r = none
  | .range => r = none ∨ r = some 2147483649

theorem uint_num : ∀ (l : List UInt8) (a : Nat) (n : Int), n = min (a : Int) 2147483649 → a ≤ 4294967295 → UN (numL l n) (Lib.parseUintM 4294967295 a l)
  | [], a, n, hn, ha => by unfold Lib.parseUintM numL UN; simp only; rw [hn]
  | c :: r, a, n, hn, ha => by
    unfold Lib.parseUintM numL
    by_cases h : 48 ≤ c.toNat ∧ c.toNat ≤ 57
    · rw [if_pos h, if_neg (by omega : ¬ (c.toNat < 48 ∨ 57 < c.toNat)), if_neg (by omega : ¬ 1844674407370955162 ≤ a)]
      by_cases hm : 4294967295 < a * 10 + (c.toNat - 48)
      · rw [if_pos hm]
        have : sat n c.toNat = 2147483649 := by unfold sat; rw [if_pos (by omega)]
        rw [this]
        exact numL_big r
      · rw [if_neg hm]
        refine uint_num r _ _ ?_ (by omega)
        unfold sat
        split <;> omega
    · rw [if_neg h, if_pos (by omega : (c.toNat < 48 ∨ 57 < c.toNat))]
      rfl

theorem num_eq (s : ByteArray) : (numP s).2 = (numS s).2 ∧ ((numP s).2 = true → (numP s).1 = (numS s).1) := by
  have hl : s.data.toList.length = s.size := Array.length_toList
  have hp : (2 : Nat) ^ 32 - 1 = 4294967295 := by decide
  have hq : (2 : Nat) ^ (32 - 1) = 2147483648 := by decide
  cases hd : s.data.toList with
  | nil =>
    rw [hd] at hl
    have hz : s.size = 0 := by simpa using hl.symm
    have h1 : numP s = (0, false) := by unfold numP; rw [hd]; rfl
    have h2 : numS s = (0, false) := by unfold numS numFrom; rw [if_neg (by omega), if_pos (by omega)]
    rw [h1, h2]; exact ⟨rfl, fun h => by cases h⟩
  | cons c r =>
    rw [hd] at hl
    have hz : s.size = r.length + 1 := by simpa using hl.symm
    obtain ⟨c', hc', hb⟩ := byt_data s 0 (by omega)
    rw [hd] at hc'
    obtain rfl : c = c' := by simpa using hc'
    have hA : ∀ k n, numAt s s.size k n = numL ((c :: r).drop k) n := fun k n => by rw [numAt_list s _ _ _ (by omega), hd]
    unfold numP numS Lib.parseIntB
    rw [hd]
    simp only
    by_cases h45 : c.toNat = 45
    · rw [if_pos (by omega : 0 < s.size ∧ byt s 0 = 45), if_pos (Or.inr h45 : c.toNat = 43 ∨ c.toNat = 45)]
      unfold numFrom Lib.parseUintB
      cases r with
      | nil =>
        rw [if_pos (show s.size ≤ 1 by simp at hz; omega)]
        exact ⟨rfl, fun h => by cases h⟩
      | cons d r' =>
        rw [if_neg (show ¬ s.size ≤ 1 by simp at hz; omega), hA, if_neg (List.cons_ne_nil _ _), hp]
        have hu := uint_num (d :: r') 0 0 (by decide) (by omega)
        simp only [List.drop_succ_cons, List.drop_zero]
        have hpre : Lib.hasPrefix (c :: d :: r') [43] = false := by
          have : c ≠ 43 := by rintro rfl; exact absurd h45 (by decide)
          simp [Lib.hasPrefix, List.isPrefixOf, this.symm]
        rw [hpre]
        cases hm : Lib.parseUintM 4294967295 0 (d :: r') with
        | «syntax» => rw [hm] at hu; simp only [UN] at hu; rw [hu]; exact ⟨rfl, fun h => by cases h⟩
        | range =>
          rw [hm] at hu; simp only [UN] at hu
          rcases hu with hu | hu <;> rw [hu] <;> exact ⟨rfl, fun h => by cases h⟩
        | ok u =>
          rw [hm] at hu; simp only [UN] at hu; rw [hu]
          simp only [h45, hq]
          by_cases hx : 2147483648 < u
          · simp [hx, cellOk]; omega
          · simp [hx, cellOk]; omega
    · rw [if_neg (by omega : ¬ (0 < s.size ∧ byt s 0 = 45))]
      unfold numFrom
      rw [if_neg (by omega : ¬ s.size ≤ 0), hA]
      simp only [List.drop_zero]
      by_cases h43 : c.toNat = 43
      · have hc : c = 43 := UInt8.toNat_inj.1 (by rw [h43]; rfl)
        have hpre : Lib.hasPrefix (c :: r) [43] = true := by simp [Lib.hasPrefix, List.isPrefixOf, hc]
        have hn : numL (c :: r) 0 = none := by unfold numL; rw [if_pos (by omega)]
        rw [hn, hpre]
        simp only [if_true]
        constructor
        · split <;> rfl
        · intro h; split at h <;> cases h
      · rw [if_neg (by omega : ¬ (c.toNat = 43 ∨ c.toNat = 45))]
        unfold Lib.parseUintB
        rw [if_neg (List.cons_ne_nil _ _), hp]
        have hu := uint_num (c :: r) 0 0 (by decide) (by omega)
        have hpre : Lib.hasPrefix (c :: r) [43] = false := by
          have : c ≠ 43 := by rintro rfl; exact absurd h43 (by decide)
          simp [Lib.hasPrefix, List.isPrefixOf, this.symm]
        rw [hpre]
        cases hm : Lib.parseUintM 4294967295 0 (c :: r) with
        | «syntax» => rw [hm] at hu; simp only [UN] at hu; rw [hu]; exact ⟨rfl, fun h => by cases h⟩
        | range =>
          rw [hm] at hu; simp only [UN] at hu
          rcases hu with hu | hu <;> rw [hu] <;> exact ⟨rfl, fun h => by cases h⟩
        | ok u =>
          rw [hm] at hu; simp only [UN] at hu; rw [hu]
          simp only [h45, hq]
          by_cases hx : 2147483648 ≤ u
          · simp [hx, cellOk]; omega
          · simp [hx, cellOk]; omega

end Go.Proofs.YtcphhbofjkenaaaGreatDoor
