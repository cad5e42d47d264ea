/- The document's answer: a do. -/
import Derived.Deep.DrawnRows
import Derived.Deep.RegionHeld3
import Derived.Test.YtcphhbofjkenaaaGreatDoorM12
import Derived.Test.YtcphhbofjkenaaaGreatDoorM13

namespace Go.Proofs.YtcphhbofjkenaaaGreatDoor
open Go.RowKit
set_option linter.unusedVariables false
set_option linter.unusedSimpArgs false

/-- What a do gives behind these items: the item and how far; or an error and its place. -/
def pLp (ws : List RW) (toks : List Tk) (fin : Int) (f : Nat) (loops : Int) (acc : List AI) (I : Nat) : (AI × Nat) ⊕ (Int × Int) :=
  match lastTwo acc with
  | none => .inr (5, plc toks fin I)
  | some (a, b) =>
    if 1000 < a - b then .inr (7, plc toks fin I) else
      match pItems ws toks fin f [tLoop] (loops + 1) [] (I + 1) with
      | .inr r => .inr r
      | .inl (la, _, I1) => if (infL la).net = 0 then .inl (⟨none, (Inf.plain 2 0).then ((infL la).times (max 0 (a - b)))⟩, I1) else .inr (6, plc toks fin (I1 - 1))

/-- Where the two numbers lie that stand last. -/
theorem lastTwo_some {l : List AI} {a b : Int} (h : lastTwo l = some (a, b)) : 2 ≤ l.length ∧ (∃ i, l[l.length - 2]? = some ⟨some a, i⟩) ∧ ∃ i, l[l.length - 1]? = some ⟨some b, i⟩ := by
  unfold lastTwo at h
  split at h
  · rename_i b' ib a' ia r hr
    simp at h
    obtain ⟨rfl, rfl⟩ := h
    have e : l = r.reverse ++ [⟨some a', ia⟩, ⟨some b', ib⟩] := by
      have := congrArg List.reverse hr
      simpa using this
    subst e
    refine ⟨by simp, ⟨ia, ?_⟩, ⟨ib, ?_⟩⟩
    · simp
    · simp
  · cases h


/-- What a do leaves behind. -/
def LoopPost (rb sb : Nat) (tv sv : Value) (ws : List RW) (c k : Int) (fin A : Int) (base : Nat) (v : Value) (acc : List AI) (w : World) (r : (AI × Nat) ⊕ (Int × Int)) (e : Ending) (w' : World) : Prop :=
  match r with
  | .inl (x, I) => ∃ v' xs' F', e = .returned v' ∧ Blk w' rb (rdr sb tv I fin 0 A) 181 ∧ Chg (fun b => b = rb ∨ v.ownBlock = some b) w w' ∧ ItemsAt sb sv ws c k w' base v' (acc ++ [x]) xs' F'
  | .inr (E, P) => ∃ (ad : Option Addr) (n cap I : Nat), e = .returned (.slice ad n cap) ∧ E ≠ 0 ∧ Blk w' rb (rdr sb tv I fin E P) 181 ∧ Chg (fun b => b = rb ∨ v.ownBlock = some b) w w'

/-- The two cells of an item that is looked at. -/
theorem ItemsAt.look {sb : Nat} {sv : Value} {ws : List RW} {sc sk : Int} {w : World} {base : Nat} {v : Value} {l : List AI} {xs : List (Array Value)} {F : Nat → Prop}
    (h : ItemsAt sb sv ws sc sk w base v l xs F) {g cap : Nat} (hv : v = .slice (some ⟨g, 0, none⟩) l.length cap) (i : Nat) (hi : i < l.length) :
    ∃ x : Array Value, xs[i]? = some x ∧ five x ∧ kindOk x l[i] ∧ ∀ (o : Nat) (u : Value), x[o]? = some u → w.cell? ⟨g, i * 5 + o, none⟩ = some u := by
  have hxj : xs[i]? = some (xs[i]'(by rw [h.len]; exact hi)) := List.getElem?_eq_getElem _
  obtain ⟨x, hx⟩ : ∃ x, xs[i]? = some x := ⟨_, hxj⟩
  obtain ⟨g', cap', hve, _, hg, _, _, hcell⟩ := row_cells h.row (by omega)
  rw [hv] at hve
  obtain ⟨e1, _⟩ : g = g' ∧ cap = cap' := by simpa using hve
  subst e1
  exact ⟨x, hx, h.shape x (List.mem_of_getElem? hx), h.kind i x _ hx (List.getElem?_eq_getElem hi), fun o u hu => hcell _ _ (flat5 xs h.shape i o x u hx hu)⟩

theorem kind_none {x : Array Value} {a : AI} (h : kindOk x a) (ha : a.num = none) : ∃ k : Int, x[0]? = some (.int .i64 k) ∧ k ≠ 1 := by
  unfold kindOk at h; rw [ha] at h; exact h
theorem kind_some {x : Array Value} {a : AI} {n : Int} (h : kindOk x a) (ha : a.num = some n) : x = #[.int .i64 1, .int .i64 n, .string ⟨#[]⟩, .slice none 0 0, .slice none 0 0] ∧ -2147483648 ≤ n ∧ n ≤ 2147483647 := by
  unfold kindOk at h; rw [ha] at h; exact h

/-- Why there are not two numbers. -/
theorem lastTwo_none {l : List AI} (h : lastTwo l = none) : l.length < 2 ∨ (∃ m, ∃ h2 : l.length = m + 2, (l[m + 1]'(by omega)).num = none) ∨ (∃ m, ∃ h2 : l.length = m + 2, ∃ n, (l[m + 1]'(by omega)).num = some n ∧ (l[m]'(by omega)).num = none) := by
  rcases Nat.lt_or_ge l.length 2 with h1 | h1
  · exact Or.inl h1
  · right
    obtain ⟨m, hm⟩ : ∃ m, l.length = m + 2 := ⟨l.length - 2, by omega⟩
    have e : l.reverse = l[m + 1] :: l[m] :: (l.take m).reverse := by
      have : l = l.take m ++ [l[m], l[m + 1]] := by
        conv => lhs; rw [← List.take_append_drop m l]
        congr 1
        rw [List.drop_eq_getElem_cons (by omega), List.drop_eq_getElem_cons (by omega), List.drop_eq_nil_of_le (by omega)]
      conv => lhs; rw [this]
      simp
    unfold lastTwo at h
    rw [e] at h
    generalize hy : l[m + 1] = y at h
    generalize hz : l[m] = z at h
    obtain ⟨yn, yi⟩ := y
    obtain ⟨zn, zi⟩ := z
    cases yn with
    | none => exact Or.inl ⟨m, hm, by rw [hy]⟩
    | some n =>
      cases zn with
      | none => exact Or.inr ⟨m, hm, n, by rw [hy], by rw [hz]⟩
      | some n2 => simp at h

theorem ownsRow_lt {w : World} {base : Nat} {e : TypeId} {size : Nat} {v : Value} {n : Nat} {xs : List Value} (h : w.ownsRow base e size v n xs) {k : Nat} (hk : v.ownBlock = some k) : base ≤ k := by
  rcases h.2 with ⟨rfl, _⟩ | ⟨g, cap, cur, rfl, hg, _⟩
  · cases hk
  · simp [Value.ownBlock] at hk; omega

set_option maxHeartbeats 4000000 in
set_option maxRecDepth 100000 in
theorem ref_loop_bad (rb sb : Nat) (tv sv : Value) (toks : List Tk) (ws : List RW) (c k : Int) (I f : Nat) (fin A loops : Int) (base : Nat) (v : Value) (acc : List AI) (xs : List (Array Value)) (F : Nat → Prop) (w : World)
    (hR : Rd w rb sb tv sv toks ws c k) (hb : Blk w rb (rdr sb tv I fin 0 A) 181) (hI : I < toks.length) (hAt : ItemsAt sb sv ws c k w base v acc xs F) (hal : acc.length ≤ 1100000) (h2 : lastTwo acc = none) :
    Calls Tryz.prog 169 #[.pointer (some ⟨rb, 0, none⟩), v, .int .i64 loops] w (LoopPost rb sb tv sv ws c k fin A base v acc w (pLp ws toks fin f loops acc I)) := by
  have hr : pLp ws toks fin f loops acc I = .inr (5, plc toks fin I) := by unfold pLp; rw [h2]
  rw [hr]
  obtain ⟨ad, cap, hv, hcap, hmax⟩ := row_shape hAt.row
  obtain ⟨r0, r1, r2, r3, r4, r5⟩ := hb.rdr
  have hfew := hR.few
  have HX := hidden (ref_fails rb sb tv toks I I fin A 5 w (by omega) (by omega) hb hR.tok hR.tr)
  have fin' : ∀ (w1 : World), Blk w1 rb (rdr sb tv I fin 5 (plc toks fin I)) 181 → Chg (fun k => k = rb) w w1 → LoopPost rb sb tv sv ws c k fin A base v acc w (.inr (5, plc toks fin I)) (.returned v) w1 := fun w1 h1 h2 =>
    ⟨ad, acc.length, cap, I, by rw [hv], by decide, h1, h2.mono (fun k _ e => Or.inl e)⟩
  have HFIN := hidden fin'
  clear fin'
  rcases lastTwo_none h2 with h3 | ⟨m, hm, h3⟩ | ⟨m, hm, n, h3, h4⟩
  · have hlt : (acc.length : Int) < 2 := by omega
    subst hv
    clear hr h2 hAt hR hb h3
    go_enter Tryz.func169, Tryz.ntmps169
    go_wp2_with fail
    refine HX.out.mono ?_
    rintro e w1 ⟨rfl, hb1, hc1⟩
    have H1 := hidden hb1; have H2 := hidden hc1
    clear HX hb1 hc1
    go_wp2_with fail
    go_ret
    exact HFIN.out _ H1.out H2.out
  · obtain ⟨g, cap', hv', _, hg, _, _, hcell⟩ := row_cells hAt.row (by omega)
    rw [hv] at hv'
    obtain ⟨rfl, rfl⟩ : ad = some ⟨g, 0, none⟩ ∧ cap = cap' := by simpa using hv'
    obtain ⟨x, hx, _, hk, hcc⟩ := hAt.look hv (m + 1) (by omega)
    obtain ⟨kk, hk0, hk1⟩ := kind_none hk h3
    have c0 := hcc 0 _ hk0
    obtain ⟨p, hp⟩ : ∃ p, p = m + 1 := ⟨_, rfl⟩
    rw [← hp] at c0
    rw [Nat.add_zero] at c0
    have hkb : (kk != 1) = true := by simpa using hk1
    have hge : ¬ (acc.length : Int) < 2 := by omega
    have e1 : (acc.length : Int) - 1 = (p : Int) := by omega
    have e2 : (p : Int) < (acc.length : Int) := by omega
    have e3 : (0 : Int) ≤ (p : Int) := by omega
    subst hv
    clear hr h2 hAt hR hb h3 hm hp hk hcc hcell hk1 hk0 hx hv'
    go_enter Tryz.func169, Tryz.ntmps169
    go_wp2_with fail
    refine HX.out.mono ?_
    rintro e w1 ⟨rfl, hb1, hc1⟩
    have H1 := hidden hb1; have H2 := hidden hc1
    clear HX hb1 hc1
    go_wp2_with fail
    go_ret
    exact HFIN.out _ H1.out H2.out
  · obtain ⟨g, cap', hv', _, hg, _, _, hcell⟩ := row_cells hAt.row (by omega)
    rw [hv] at hv'
    obtain ⟨rfl, rfl⟩ : ad = some ⟨g, 0, none⟩ ∧ cap = cap' := by simpa using hv'
    obtain ⟨x, hx, _, hk, hcc⟩ := hAt.look hv m (by omega)
    obtain ⟨kk, hk0, hk1⟩ := kind_none hk h4
    have c0 := hcc 0 _ hk0
    rw [Nat.add_zero] at c0
    obtain ⟨y, hy, _, hky, hcy⟩ := hAt.look hv (m + 1) (by omega)
    have d0 := hcy 0 (.int .i64 1) (by rw [(kind_some hky h3).1]; rfl)
    obtain ⟨p, hp⟩ : ∃ p, p = m + 1 := ⟨_, rfl⟩
    rw [← hp] at d0
    rw [Nat.add_zero] at d0
    have c0n : w.cell? ⟨g, (acc.length - 2) * 5, none⟩ = some (.int .i64 kk) := by rw [show acc.length - 2 = m by omega]; exact c0
    have hkb : (kk != 1) = true := by simpa using hk1
    have hge : ¬ (acc.length : Int) < 2 := by omega
    have e1 : (acc.length : Int) - 1 = (p : Int) := by omega
    have e2 : (p : Int) < (acc.length : Int) := by omega
    have e3 : (0 : Int) ≤ (p : Int) := by omega
    have e4 : (acc.length : Int) - 2 = (m : Int) := by omega
    have e5 : (m : Int) < (acc.length : Int) := by omega
    have e6 : (0 : Int) ≤ (m : Int) := by omega
    subst hv
    clear hr h2 hAt hR hb h3 hm hp hk hcc hcell hk1 hk0 hx hv' hy hky hcy h4
    go_enter Tryz.func169, Tryz.ntmps169
    go_wp2_with fail
    refine HX.out.mono ?_
    rintro e w1 ⟨rfl, hb1, hc1⟩
    have H1 := hidden hb1; have H2 := hidden hc1
    clear HX hb1 hc1
    go_wp2_with fail
    go_ret
    exact HFIN.out _ H1.out H2.out

end Go.Proofs.YtcphhbofjkenaaaGreatDoor
