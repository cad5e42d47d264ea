import Derived.Laws.BytesArg
import Derived.Test.YtcphhbofjkenaaaGreatDoorK21
import Derived.Test.YtcphhbofjkenaaaGreatDoorK35
import Derived.Test.YtcphhbofjkenaaaGreatDoorZ32
import Derived.Test.YtcphhbofjkenaaaGreatDoorZ35

namespace Go.Proofs.YtcphhbofjkenaaaGreatDoor
open Go Go.RowKit
set_option linter.unusedVariables false
set_option linter.unusedSimpArgs false

section
attribute [local go_sem] quietG
end

end Go.Proofs.YtcphhbofjkenaaaGreatDoor

namespace Go.Proofs.YtcphhbofjkenaaaGreatDoor
open Go Go.RowKit
set_option linter.unusedVariables false
set_option linter.unusedSimpArgs false

section
variable {B mb : Nat} {a : Option Addr} {nn c : Nat} {l : List Int} {k v : Int} {al : Bool} {q : Nat} {L : Nat} {w0 w : World}

end

end Go.Proofs.YtcphhbofjkenaaaGreatDoor

namespace Go.Proofs.YtcphhbofjkenaaaGreatDoor
open Go Go.RowKit
set_option linter.unusedVariables false
set_option linter.unusedSimpArgs false

structure CRow (B : Nat) (w0 w : World) (v : Value) (xs : List Int) : Prop where
  row : IRow B w v xs
  cel : ∀ x ∈ xs, Cell x
  bel : Below B w0 w

theorem insAt_cells {B : Nat} {w : World} {a : Option Addr} {nn c : Nat} {l : List Int} (h : InsAt B w (.slice a nn c) l) : nn = l.length ∧ ∀ (j : Nat) (y : Int), l[j]? = some y → ∃ pb po, a = some ⟨pb, po, none⟩ ∧ pb < B ∧ w.cell? ⟨pb, po + j, none⟩ = some (.int .i64 y) := by
  rcases h with ⟨rfl, a', c', e⟩ | ⟨pb, po, c', e, _, h3, h4⟩
  · simp at e; exact ⟨by simp [e], fun j y hy => by simp at hy⟩
  · simp at e; exact ⟨e.2.1, fun j y hy => ⟨pb, po, e.1, h3, h4 j y hy⟩⟩

set_option maxRecDepth 100000 in
set_option maxHeartbeats 4000000 in
theorem keep_cells {B : Nat} (w : World) (a : Option Addr) (nn c : Nat) (l : List Int) (hr : InsAt B w (.slice a nn c) l) (hl : ∀ x ∈ l, I64 x) (hB : B ≤ w.heap.size) (hil : l.length ≤ 17592186043904) :
    Calls Tryz.prog 20 #[.slice a nn c] w fun e w' => ∃ (v : Value) (xs : List Int), e = .returned v ∧ CRow w.heap.size w w' v xs ∧ xs.length = l.length := by
  obtain ⟨hnn, hce⟩ := insAt_cells hr
  have HN := hidden hnn; have HCE := hidden hce; have HL := hidden hl
  have hnl : (nn : Int) ≤ 17592186043904 := by omega
  obtain ⟨i0, hi, hz0, hz1, hz2⟩ := info_parts Tryz.infoIn
  have HI := hidden (And.intro hi (And.intro hz0 (And.intro hz1 hz2)))
  clear hnn hce hl hr hi hz0 hz1 hz2 hil
  go_enter Tryz.func20, Tryz.ntmps20
  go_wp2_with fail
  go_loopw [3, 4] (fun v i wr => ∃ (j : Nat) (xs : List Int) (va : Option Addr) (vn vc : Nat), j ≤ nn ∧ v = .slice va vn vc ∧ i = .int .i64 j ∧ Hid (CRow w.heap.size w wr (.slice va vn vc) xs ∧ xs.length = j)) (fun _ i _ => nn - (intOf i).toNat)
  case atStart => exact ⟨0, [], none, 0, 0, Nat.zero_le _, rfl, rfl, hidden ⟨⟨⟨rfl, Or.inl ⟨rfl, rfl⟩⟩, (fun x hx => by simp at hx), Below.refl _ _⟩, rfl⟩⟩
  case round =>
    obtain ⟨j, xs, va, vn, vc, hj, rfl, rfl, HC⟩ := hrel
    by_cases hlt : j < nn
    · have hji : (j : Int) < (nn : Int) := by omega
      obtain ⟨y, hyj⟩ : ∃ y, l[j]? = some y := ⟨_, List.getElem?_eq_getElem (by rw [← HN.out]; exact hlt)⟩
      obtain ⟨pb, po, rfl, hpb, cy⟩ := HCE.out j y hyj
      have hpw : pb < w.heap.size := by omega
      have cyr : wr.cell? ⟨pb, po + j, none⟩ = some (.int .i64 y) := (HC.out.1.bel.cell (p := ⟨pb, po + j, none⟩) hpw).trans cy
      have hpr : pb < wr.heap.size := Nat.lt_of_lt_of_le hpw HC.out.1.bel.size
      have HP := hidden (fun w' => keep_pick y 2147483647 (HL.out y (List.mem_of_getElem? hyj)) (by omega) (by omega) w')
      clear cy hyj
      go_wp2_with fail
      refine (HP.out _).mono ?_
      rintro e w3 ⟨r, rfl, r0, r1, rfl⟩
      clear HP cyr
      obtain ⟨hi0, hz0, hsz0, hb0⟩ := HI.out
      have hbA : Below w.heap.size w (w3.alloc (.cells #[.int .i64 r] 3 (0, 0))) := HC.out.1.bel.alloc HC.out.1.bel.size _
      have hrA : (w3.alloc (.cells #[.int .i64 r] 3 (0, 0))).ownsRow w.heap.size 3 1 (.slice va vn vc) xs.length (ints xs) := HC.out.1.row.alloc _
      have hsm : xs.length ≤ 17592186043904 := by have := HC.out.2; omega
      obtain ⟨qn, hqn⟩ : ∃ qn, qn = xs.length := ⟨_, rfl⟩
      obtain ⟨qi, hqi⟩ : ∃ qi, qi = ints xs := ⟨_, rfl⟩
      rw [← hqn, ← hqi] at hrA
      rw [← hqn] at hsm
      have HQ := hidden (And.intro hqn hqi)
      clear hqn hqi
      have HBA := hidden hbA; have HRA := hidden hrA
      have HNW := hidden (newsM w3 #[.int .i64 r] 3)
      clear hbA hrA
      go_wp2_with (at_builtin; refine wpList_append_own _ rfl _ _ 24 rfl w.heap.size 3 i0 (.int .i64 0) 1 8 Tryz.underlying24 hi0 hz0 hsz0 hb0 rfl (by decide) (.slice va vn vc) qn qi rfl HRA.out ⟨w3.heap.size, 0, none⟩ 1 1 [.int .i64 r] rfl rfl HNW.out (by intro u hu; rw [List.mem_singleton.1 hu]; rfl) (by unfold maxLen; omega) (by omega) HBA.out.size ?_)
      intro v4 w4 hr4 hg4 _
      have hr4' : IRow w.heap.size w4 v4 (xs ++ [r]) := by
        show w4.ownsRow _ _ _ _ _ _
        obtain ⟨e1, e2⟩ := HQ.out
        rw [show ints (xs ++ [r]) = ints xs ++ [.int .i64 r] by simp [ints], List.length_append, ← e1, ← e2]
        exact hr4
      have hb4 : Below w.heap.size w w4 := HBA.out.trans ((Chg.ofGrown hg4).toBelow HBA.out.size (fun q hq e => by have := own_base HRA.out e.symm; omega))
      obtain ⟨a4, n4, c4, rfl⟩ := irow_shape hr4'
      have hcc : ∀ x ∈ xs ++ [r], Cell x := fun x hx => by
        rcases List.mem_append.1 hx with h | h
        · exact HC.out.1.cel x h
        · rw [List.mem_singleton.1 h]; exact ⟨by omega, by omega⟩
      have HF : Hid (CRow w.heap.size w w4 (.slice a4 n4 c4) (xs ++ [r]) ∧ (xs ++ [r]).length = j + 1) := hidden ⟨⟨hr4', hcc, hb4⟩, by rw [List.length_append, HC.out.2]; rfl⟩
      clear hr4 hg4 hr4' hb4 hi0 hz0 hsz0 hb0 HNW HRA HBA HC hcc HQ
      go_wp2_with fail
      go_roundw
      case rel => exact ⟨j + 1, _, a4, n4, c4, by omega, rfl, by go_num, HF⟩
      case measure => simp only [intOf]; omega
    · obtain rfl : j = nn := by omega
      have hji : ¬ (j : Int) < (j : Int) := by omega
      go_wp2_with fail
      go_ret
      exact ⟨.slice va vn vc, rfl, xs, HC.out.1, HC.out.2.trans HN.out⟩

theorem insAt_take {B B' : Nat} {w : World} {va : Option Addr} {vn vc : Nat} {xs : List Int} (h : IRow B w (.slice va vn vc) xs) (hB : w.heap.size ≤ B') (k : Nat) (hk : k ≤ xs.length) : InsAt B' w (.slice va k vc) (xs.take k) := by
  obtain ⟨ad, cap, hv, hcap, _⟩ := row_shape h
  by_cases h0 : 0 < xs.length
  · obtain ⟨g, cap, hv, h1, h2, h3, h4, h5⟩ := row_cells h h0
    simp only [Value.slice.injEq] at hv
    obtain ⟨rfl, rfl, rfl⟩ := hv
    right
    refine ⟨g, 0, vc, ?_, by rw [List.length_take]; omega, by omega, fun j y hy => ?_⟩
    · rw [List.length_take, Nat.min_eq_left hk]
    · have : xs[j]? = some y := by
        rw [List.getElem?_take] at hy
        split at hy
        · exact hy
        · cases hy
      rw [Nat.zero_add]
      exact h5 j _ (by rw [ints, List.getElem?_map, this]; rfl)
  · obtain rfl : k = 0 := by omega
    exact Or.inl ⟨by simp, _, _, rfl⟩

def lenV : Value → Nat
  | .slice _ n _ => n
  | _ => 0

set_option maxRecDepth 100000 in
set_option maxHeartbeats 4000000 in
theorem keep_start {B : Nat} (w : World) (a : Option Addr) (nn c : Nat) (l : List Int) (le mo : Int) (hr : InsAt B w (.slice a nn c) l) (hl : ∀ x ∈ l, I64 x) (hB : B ≤ w.heap.size) (hil : l.length ≤ 17592186043904) (h0 : 0 ≤ le) (h1 : le ≤ mo) (h2 : mo ≤ 32) :
    Calls Tryz.prog 19 #[.slice a nn c, .int .i64 le, .int .i64 mo] w fun e w' => ∃ (va : Option Addr) (vc : Nat) (xs : List Int), e = .returned (.slice va xs.length vc) ∧ xs.length ≤ vc ∧ (0 < xs.length → ∃ g, va = some ⟨g, 0, none⟩) ∧ (∀ k, k ≤ xs.length → InsAt w'.heap.size w' (.slice va k vc) (xs.take k)) ∧ (∀ x ∈ xs, Cell x) ∧ le ≤ xs.length ∧ (xs.length : Int) ≤ mo ∧ Below w.heap.size w w' := by
  have HC := hidden (keep_cells w a nn c l hr hl hB hil)
  obtain ⟨i0, hi, hz0, hz1, hz2⟩ := info_parts Tryz.infoIn
  have HI := hidden (And.intro hi (And.intro hz0 (And.intro hz1 hz2)))
  clear hr hl hi hz0 hz1 hz2
  go_enter Tryz.func19, Tryz.ntmps19
  go_wp2_with fail
  refine HC.out.mono ?_
  rintro e w1 ⟨v, ys, rfl, hc, hyl⟩
  obtain ⟨ya, yc, hyv, hycc, _⟩ := row_shape hc.row
  subst hyv
  have HY := hidden (And.intro hc (show ys.length ≤ 17592186043944 by omega))
  clear hc hyl HC hycc
  go_wp2_with fail
  go_loopw [7] (fun v wr => ∃ (xs : List Int) (va : Option Addr) (vc : Nat), v = .slice va xs.length vc ∧ Hid (CRow w.heap.size w wr (.slice va xs.length vc) xs ∧ xs.length ≤ 17592186043944)) (fun v _ => 33 - lenV v)
  case atStart => exact ⟨ys, ya, yc, rfl, HY⟩
  case round =>
    clear HY
    obtain ⟨xs, va, vc, rfl, HC⟩ := hrel
    obtain ⟨n, hn⟩ : ∃ n, n = xs.length := ⟨_, rfl⟩
    rw [← hn] at HC ⊢
    have HN := hidden hn
    by_cases hlt : (n : Int) < le
    · obtain ⟨hi0, hz0, hsz0, hb0⟩ := HI.out
      have hbA : Below w.heap.size w (wr.alloc (.cells #[.int .i64 3] 3 (0, 0))) := HC.out.1.bel.alloc HC.out.1.bel.size _
      have hrA : (wr.alloc (.cells #[.int .i64 3] 3 (0, 0))).ownsRow w.heap.size 3 1 (.slice va n vc) n (ints xs) := by rw [hn]; rw [hn] at HC; exact HC.out.1.row.alloc _
      have hsm : n ≤ 17592186043944 := HC.out.2
      obtain ⟨qi, hqi⟩ : ∃ qi, qi = ints xs := ⟨_, rfl⟩
      rw [← hqi] at hrA
      have HQ := hidden hqi
      clear hqi hn
      have HBA := hidden hbA; have HRA := hidden hrA
      have HNW := hidden (newsM wr #[.int .i64 3] 3)
      clear hbA hrA
      go_wp2_with (at_builtin; refine wpList_append_own _ rfl _ _ 24 rfl w.heap.size 3 i0 (.int .i64 0) 1 8 Tryz.underlying24 hi0 hz0 hsz0 hb0 rfl (by decide) (.slice va n vc) n qi rfl HRA.out ⟨wr.heap.size, 0, none⟩ 1 1 [.int .i64 3] rfl rfl HNW.out (by intro u hu; rw [List.mem_singleton.1 hu]; rfl) (by unfold maxLen; omega) (by omega) HBA.out.size ?_)
      intro v4 w4 hr4 hg4 _
      have hr4' : IRow w.heap.size w4 v4 (xs ++ [3]) := by
        show w4.ownsRow _ _ _ _ _ _
        rw [show ints (xs ++ [3]) = ints xs ++ [.int .i64 3] by simp [ints], List.length_append, ← HN.out, ← HQ.out]
        exact hr4
      have hb4 : Below w.heap.size w w4 := HBA.out.trans ((Chg.ofGrown hg4).toBelow HBA.out.size (fun q hq e => by have := own_base HRA.out e.symm; omega))
      obtain ⟨a4, c4, hv4, _, _⟩ := row_shape hr4'
      subst hv4
      have hcc : ∀ x ∈ xs ++ [3], Cell x := fun x hx => by
        rcases List.mem_append.1 hx with h | h
        · exact HC.out.1.cel x h
        · rw [List.mem_singleton.1 h]; exact ⟨by omega, by omega⟩
      have hlen : (xs ++ [3]).length = n + 1 := by rw [List.length_append, ← HN.out]; rfl
      have HF : Hid (CRow w.heap.size w w4 (.slice a4 (xs ++ [3]).length c4) (xs ++ [3]) ∧ (xs ++ [3]).length ≤ 17592186043944) := hidden ⟨⟨hr4', hcc, hb4⟩, by omega⟩
      have HLN := hidden hlen
      clear hr4 hg4 hr4' hb4 hi0 hz0 hsz0 hb0 HNW HRA HBA HC hcc HQ hlen
      go_wp2_with fail
      go_roundw
      case rel => exact ⟨_, a4, c4, rfl, HF⟩
      case measure => simp only [lenV]; have := HLN.out; omega
    · have hrow : IRow w.heap.size wr (.slice va n vc) xs := HC.out.1.row
      obtain ⟨_, vc', hv', hcap, _⟩ := row_shape hrow
      have hvc : n ≤ vc := by simp only [Value.slice.injEq] at hv'; omega
      clear hv'
      by_cases hgt : mo < (n : Int)
      · obtain ⟨g, cap, hv, _⟩ := row_cells hrow (by omega)
        simp only [Value.slice.injEq] at hv
        obtain ⟨rfl, _, rfl⟩ := hv
        have hmc : mo ≤ (vc : Int) := by omega
        have hm0 : 0 ≤ mo := by omega
        clear hrow hn
        go_wp2_with fail
        go_ret
        have hrow : IRow w.heap.size wr (.slice (some ⟨g, 0, none⟩) n vc) xs := HC.out.1.row
        have hlen : (xs.take mo.toNat).length = mo.toNat := by rw [List.length_take, ← HN.out]; omega
        refine ⟨some ⟨g, 0, none⟩, vc, xs.take mo.toNat, by rw [hlen]; rfl, by omega, fun _ => ⟨g, rfl⟩, fun k hk => ?_, fun x hx => HC.out.1.cel x (List.mem_of_mem_take hx), by omega, by omega, HC.out.1.bel⟩
        have := insAt_take hrow (Nat.le_refl _) k (by rw [← HN.out]; omega)
        rw [List.take_take, Nat.min_eq_left (by omega)]
        exact this
      · have hcg : (0 : Nat) < n → ∃ g, va = some ⟨g, 0, none⟩ := fun h => by
          obtain ⟨g, cap, hv, _⟩ := row_cells hrow (by omega)
          simp only [Value.slice.injEq] at hv
          exact ⟨g, hv.1⟩
        clear hrow hn
        have HCG := hidden hcg
        clear hcg
        go_wp2_with fail
        go_ret
        have hrow : IRow w.heap.size wr (.slice va n vc) xs := HC.out.1.row
        have hn := HN.out
        refine ⟨va, vc, xs, by rw [← hn]; rfl, by omega, by rw [← hn]; exact HCG.out, fun k hk => insAt_take hrow (Nat.le_refl _) k hk, HC.out.1.cel, by omega, by omega, HC.out.1.bel⟩

end Go.Proofs.YtcphhbofjkenaaaGreatDoor

namespace Go.Proofs.YtcphhbofjkenaaaGreatDoor
open Go Go.RowKit
set_option linter.unusedVariables false
set_option linter.unusedSimpArgs false

section
attribute [local go_sem] quietG
def LoadedPost (w : World) (s : ByteArray) (e : Ending) (w' : World) : Prop := ∃ (bb : Nat) (ws : List RW), e = .returned (.tuple #[.pointer (some ⟨bb, 0, none⟩), .bool ((loadR s [] 0 0 []).1.1 == 0)]) ∧ w.heap.size ≤ bb ∧ KSys w' bb (loadR s [] 0 0 []).2 ws ∧ Below w.heap.size w w'

set_option maxRecDepth 100000 in
set_option maxHeartbeats 4000000 in
theorem keep_loaded (w : World) (mb : Nat) {a : Option Addr} {nn c : Nat} {i : Int} {s : ByteArray} {k v : Int} {al : Bool} (hb : Blk w mb (mkC a nn c i s k v al) 34) (ht : Tab w) (hs : s.size ≤ 100000) :
    Calls Tryz.prog 15 #[.pointer (some ⟨mb, 0, none⟩)] w fun e w' => LoadedPost w s e w' := by
  have HT := hidden ht; have HB := hidden hb
  have HN := hidden (forth_new w ht)
  clear ht hb
  go_enter Tryz.func15, Tryz.ntmps15
  go_wp2_with fail
  refine HN.out.mono ?_
  rintro e w1 ⟨bb, hbb, rfl, hp, hb1⟩
  have HW := hidden (keep_works w1 (HT.out.below hb1))
  have HP := hidden hp; have HB1 := hidden hb1
  clear hp hb1 HN
  go_wp2_with fail
  refine HW.out.mono ?_
  rintro e w2 ⟨rfl, hb2⟩
  have hb12 := HB1.out.trans (hb2.mono HB1.out.size)
  have hbl := HB.out.sub hb12 HB.out.lt
  have c2 : w2.cell? ⟨mb, 2, none⟩ = some (.string s) := hbl.cell 2 _ rfl
  have hml := hbl.lt
  have HL := hidden (forth_load s (HP.out.below hb2) (HT.out.below hb12) (by omega) LInv.zero)
  have HB2 := hidden hb12
  clear hb2 hb12 hbl HW HP HB1
  go_wp2_with fail
  refine HL.out.mono ?_
  intro e w3 hpost
  obtain ⟨h1, ⟨ws, hK⟩, hb3⟩ := load_new hbb HB2.out hpost
  subst h1
  have HK := hidden hK; have HB3 := hidden hb3
  clear hpost hK hb3 HL HB2 c2
  obtain ⟨r1, hr1⟩ : ∃ r, r = (loadR s [] 0 0 []).1.1 := ⟨_, rfl⟩
  obtain ⟨r2, hr2⟩ : ∃ r, r = (loadR s [] 0 0 []).1.2 := ⟨_, rfl⟩
  rw [← hr1, ← hr2]
  have HR1 := hidden hr1
  clear hr1 hr2
  go_wp2_with fail
  exact bodyPost_ret (v := .tuple #[.pointer (some ⟨bb, 0, none⟩), .bool (r1 == 0)]) (by simp [results, Tryz.results15, go_sem]) rfl (show LoadedPost _ _ _ _ from ⟨bb, ws, by rw [HR1.out], hbb, HK.out, HB3.out⟩)
end

end Go.Proofs.YtcphhbofjkenaaaGreatDoor

namespace Go.Proofs.YtcphhbofjkenaaaGreatDoor
open Go Go.RowKit
set_option linter.unusedVariables false
set_option linter.unusedSimpArgs false

end Go.Proofs.YtcphhbofjkenaaaGreatDoor

namespace Go.Proofs.YtcphhbofjkenaaaGreatDoor
open Go Go.RowKit
set_option linter.unusedVariables false
set_option linter.unusedSimpArgs false

section
variable {B mb : Nat} {a : Option Addr} {nn c : Nat} {l : List Int} {k v : Int} {al : Bool} {q : Nat} {L : Nat} {w0 w : World}

end

end Go.Proofs.YtcphhbofjkenaaaGreatDoor
