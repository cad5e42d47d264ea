import Derived.Laws.BytesArg
import Derived.Test.YtcphhbofjkenaaaGreatDoorU38
import Derived.Test.YtcphhbofjkenaaaGreatDoorT34
import Derived.Test.YtcphhbofjkenaaaGreatDoorT02
namespace Go.Proofs.YtcphhbofjkenaaaGreatDoor
set_option maxRecDepth 100000
set_option maxHeartbeats 16000000
open Go Go.RowKit
set_option linter.unusedVariables false
set_option linter.unusedSimpArgs false
section
attribute [local go_sem] quietG
end
end Go.Proofs.YtcphhbofjkenaaaGreatDoor
namespace Go.Proofs.YtcphhbofjkenaaaGreatDoor
set_option maxRecDepth 100000
set_option maxHeartbeats 16000000
open Go Go.RowKit
set_option linter.unusedVariables false
set_option linter.unusedSimpArgs false
section
variable {B mb : Nat} {a : Option Addr} {nn c : Nat} {l : List Int} {k v : Int} {al : Bool} {st st' : St} {q : Nat} {L : Nat} {w0 w : World}
end
section
attribute [local go_sem] quietG
end
end Go.Proofs.YtcphhbofjkenaaaGreatDoor
namespace Go.Proofs.YtcphhbofjkenaaaGreatDoor
set_option maxRecDepth 100000
set_option maxHeartbeats 16000000
open Go Go.RowKit
set_option linter.unusedVariables false
set_option linter.unusedSimpArgs false
structure CRow (B : Nat) (w0 w : World) (v : Value) (xs : List Int) : Prop where
  row : IRow B w v xs
  cel : ∀ x ∈ xs, Cell x
  bel : Below B w0 w
theorem insAt_cells {B : Nat} {w : World} {a : Option Addr} {nn c : Nat} {l : List Int} (h : InsAt B w (.slice a nn c) l) : nn = l.length ∧ ∀ (j : Nat) (y : Int), l[j]? = some y → ∃ pb po, a = some ⟨pb, po, none⟩ ∧ pb < B ∧ w.cell? ⟨pb, po + j, none⟩ = some (.int .i64 y) := by
  rcases h with ⟨rfl, a', c', e⟩ | ⟨pb, po, c', e, _, h3, h4⟩
  · simp at e; exact ⟨by simp [e], fun j y hy => by simp at hy⟩
  · simp at e; exact ⟨e.2.1, fun j y hy => ⟨pb, po, e.1, h3, h4 j y hy⟩⟩
theorem keep_cells {B : Nat} (w : World) (a : Option Addr) (nn c : Nat) (l : List Int) (hr : InsAt B w (.slice a nn c) l) (hl : ∀ x ∈ l, I64 x) (hB : B ≤ w.heap.size) (hil : l.length ≤ 17592186043904) :
    Calls Tryz.prog 20 #[.slice a nn c] w fun e w' => ∃ (v : Value) (xs : List Int), e = .returned v ∧ CRow w.heap.size w w' v xs ∧ xs.length = l.length := by
  obtain ⟨hnn, hce⟩ := insAt_cells hr
  have HN := hidden hnn; have HCE := hidden hce; have HL := hidden hl
  have hnl : (nn : Int) ≤ 17592186043904 := by omega
  obtain ⟨i0, hi, hz0, hz1, hz2⟩ := info_parts Tryz.infoIn
  have HI := hidden (And.intro hi (And.intro hz0 (And.intro hz1 hz2)))
  clear hnn hce hl hr hi hz0 hz1 hz2 hil
  go_enter Tryz.func20, Tryz.ntmps20
  go_wp2_with fail
  go_loopw [3, 4] (fun v i wr => ∃ (j : Nat) (xs : List Int) (va : Option Addr) (vn vc : Nat), j ≤ nn ∧ v = .slice va vn vc ∧ i = .int .i64 j ∧ Hid (CRow w.heap.size w wr (.slice va vn vc) xs ∧ xs.length = j)) (fun _ i _ => nn - (intOf i).toNat)
  case atStart => exact ⟨0, [], none, 0, 0, Nat.zero_le _, rfl, rfl, hidden ⟨⟨⟨rfl, Or.inl ⟨rfl, rfl⟩⟩, (fun x hx => by simp at hx), Below.refl _ _⟩, rfl⟩⟩
  case round =>
    obtain ⟨j, xs, va, vn, vc, hj, rfl, rfl, HC⟩ := hrel
    by_cases hlt : j < nn
    · have hji : (j : Int) < (nn : Int) := by omega
      obtain ⟨y, hyj⟩ : ∃ y, l[j]? = some y := ⟨_, List.getElem?_eq_getElem (by rw [← HN.out]; exact hlt)⟩
      obtain ⟨pb, po, rfl, hpb, cy⟩ := HCE.out j y hyj
      have hpw : pb < w.heap.size := by omega
      have cyr : wr.cell? ⟨pb, po + j, none⟩ = some (.int .i64 y) := (HC.out.1.bel.cell (p := ⟨pb, po + j, none⟩) hpw).trans cy
      have hpr : pb < wr.heap.size := Nat.lt_of_lt_of_le hpw HC.out.1.bel.size
      have HP := hidden (fun w' => keep_pick y 2147483647 (HL.out y (List.mem_of_getElem? hyj)) (by omega) (by omega) w')
      clear cy hyj
      go_wp2_with fail
      refine (HP.out _).mono ?_
      rintro e w3 ⟨r, rfl, r0, r1, rfl⟩
      clear HP cyr
      obtain ⟨hi0, hz0, hsz0, hb0⟩ := HI.out
      have hbA : Below w.heap.size w (w3.alloc (.cells #[.int .i64 r] 3 (0, 0))) := HC.out.1.bel.alloc HC.out.1.bel.size _
      have hrA : (w3.alloc (.cells #[.int .i64 r] 3 (0, 0))).ownsRow w.heap.size 3 1 (.slice va vn vc) xs.length (ints xs) := HC.out.1.row.alloc _
      have hsm : xs.length ≤ 17592186043904 := by have := HC.out.2; omega
      obtain ⟨qn, hqn⟩ : ∃ qn, qn = xs.length := ⟨_, rfl⟩
      obtain ⟨qi, hqi⟩ : ∃ qi, qi = ints xs := ⟨_, rfl⟩
      rw [← hqn, ← hqi] at hrA
      rw [← hqn] at hsm
      have HQ := hidden (And.intro hqn hqi)
      clear hqn hqi
      have HBA := hidden hbA; have HRA := hidden hrA
      have HNW := hidden (newsM w3 #[.int .i64 r] 3)
      clear hbA hrA
      go_wp2_with (at_builtin; refine wpList_append_own _ rfl _ _ 24 rfl w.heap.size 3 i0 (.int .i64 0) 1 8 Tryz.underlying24 hi0 hz0 hsz0 hb0 rfl (by decide) (.slice va vn vc) qn qi rfl HRA.out ⟨w3.heap.size, 0, none⟩ 1 1 [.int .i64 r] rfl rfl HNW.out (by intro u hu; rw [List.mem_singleton.1 hu]; rfl) (by unfold maxLen; omega) (by omega) HBA.out.size ?_)
      intro v4 w4 hr4 hg4 _
      have hr4' : IRow w.heap.size w4 v4 (xs ++ [r]) := by
        show w4.ownsRow _ _ _ _ _ _
        obtain ⟨e1, e2⟩ := HQ.out
        rw [show ints (xs ++ [r]) = ints xs ++ [.int .i64 r] by simp [ints], List.length_append, ← e1, ← e2]
        exact hr4
      have hb4 : Below w.heap.size w w4 := HBA.out.trans ((Chg.ofGrown hg4).toBelow HBA.out.size (fun q hq e => by have := own_base HRA.out e.symm; omega))
      obtain ⟨a4, n4, c4, rfl⟩ := irow_shape hr4'
      have hcc : ∀ x ∈ xs ++ [r], Cell x := fun x hx => by
        rcases List.mem_append.1 hx with h | h
        · exact HC.out.1.cel x h
        · rw [List.mem_singleton.1 h]; exact ⟨by omega, by omega⟩
      have HF : Hid (CRow w.heap.size w w4 (.slice a4 n4 c4) (xs ++ [r]) ∧ (xs ++ [r]).length = j + 1) := hidden ⟨⟨hr4', hcc, hb4⟩, by rw [List.length_append, HC.out.2]; rfl⟩
      clear hr4 hg4 hr4' hb4 hi0 hz0 hsz0 hb0 HNW HRA HBA HC hcc HQ
      go_wp2_with fail
      go_roundw
      case rel => exact ⟨j + 1, _, a4, n4, c4, by omega, rfl, by go_num, HF⟩
      case measure => simp only [intOf]; omega
    · obtain rfl : j = nn := by omega
      have hji : ¬ (j : Int) < (j : Int) := by omega
      go_wp2_with fail
      go_ret
      exact ⟨.slice va vn vc, rfl, xs, HC.out.1, HC.out.2.trans HN.out⟩
theorem insAt_take {B B' : Nat} {w : World} {va : Option Addr} {vn vc : Nat} {xs : List Int} (h : IRow B w (.slice va vn vc) xs) (hB : w.heap.size ≤ B') (k : Nat) (hk : k ≤ xs.length) : InsAt B' w (.slice va k vc) (xs.take k) := by
  obtain ⟨ad, cap, hv, hcap, _⟩ := row_shape h
  by_cases h0 : 0 < xs.length
  · obtain ⟨g, cap, hv, h1, h2, h3, h4, h5⟩ := row_cells h h0
    simp only [Value.slice.injEq] at hv
    obtain ⟨rfl, rfl, rfl⟩ := hv
    right
    refine ⟨g, 0, vc, ?_, by rw [List.length_take]; omega, by omega, fun j y hy => ?_⟩
    · rw [List.length_take, Nat.min_eq_left hk]
    · have : xs[j]? = some y := by
        rw [List.getElem?_take] at hy
        split at hy
        · exact hy
        · cases hy
      rw [Nat.zero_add]
      exact h5 j _ (by rw [ints, List.getElem?_map, this]; rfl)
  · obtain rfl : k = 0 := by omega
    exact Or.inl ⟨by simp, _, _, rfl⟩
section
variable {B mb : Nat} {a : Option Addr} {nn c : Nat} {l : List Int} {k v : Int} {al : Bool} {st : St} {q : Nat} {L : Nat} {w0 w : World}
end
section
variable {s : ByteArray}
end
section
variable {es : List PE} {nt : Int} {s : ByteArray} {f : Nat} {tk : Int} {dc : List Int} {b : PB} {r : List PB} {kn : Inf} {a : Nat} {X : List Int × Inf × Int × Nat}
end
section
variable {es : List PE} {nt tk : Int} {dc : List Int} {b c : PB} {r : List PB} {kn : Inf}
end
section
variable {es : List PE} {nt : Int} {s : ByteArray}
end
end Go.Proofs.YtcphhbofjkenaaaGreatDoor
