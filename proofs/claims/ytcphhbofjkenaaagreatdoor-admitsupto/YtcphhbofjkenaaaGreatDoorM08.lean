/- The leaves: small functions of the document's answer and of the program that only reckon. -/
import Derived.Lib.Strings
import Derived.Test.YtcphhbofjkenaaaGreatDoorRows
import Derived.WalkKit
import Derived.WalkLawsBesides
import Derived.WalkSpells
import Derived.Test.YtcphhbofjkenaaaGreatDoorM00

namespace Go.Proofs.YtcphhbofjkenaaaGreatDoor
open Go.RowKit

set_option maxHeartbeats 400000 in
theorem ref_blank (c : Int) (w : World) (h0 : 0 ≤ c) (h1 : c ≤ 255) :
    Calls Tryz.prog 127 #[.int .u8 c] w fun e w' => e = .returned (.bool (c == 32 || c == 9 || c == 10)) ∧ w' = w := by
  by_cases a : c = 32
  · subst a
    go_enter Tryz.func127, Tryz.ntmps127
    go_wp2
    go_ret
    exact ⟨rfl, rfl⟩
  · by_cases b : c = 9
    · subst b
      go_enter Tryz.func127, Tryz.ntmps127
      go_wp2
      go_ret
      exact ⟨rfl, rfl⟩
    · have ha : (c == 32) = false := by simpa using a
      have hb : (c == 9) = false := by simpa using b
      go_enter Tryz.func127, Tryz.ntmps127
      go_wp2
      go_ret
      exact ⟨by simp [ha, hb], rfl⟩

end Go.Proofs.YtcphhbofjkenaaaGreatDoor

/- The document's answer: the tokens of a text. -/
namespace Go.Proofs.YtcphhbofjkenaaaGreatDoor
open Go.RowKit
set_option linter.unusedVariables false
set_option linter.unusedSimpArgs false

theorem blank_of (s : ByteArray) (j : Nat) (b : Bool) (h : blk (byt s j) = b) (c : Int) (hc : c = byt s j) (w : World) :
    Calls Tryz.prog 127 #[.int .u8 c] w fun e w' => e = .returned (.bool b) ∧ w' = w := by
  subst hc
  have hlt := byt_lt s j
  refine (ref_blank _ w (by omega) (by omega)).mono ?_
  rintro e w' ⟨rfl, rfl⟩
  refine ⟨?_, rfl⟩
  rw [← h]
  have : ((byt s j : Int) == 32 || (byt s j : Int) == 9 || (byt s j : Int) == 10) = blk (byt s j) := by
    unfold blk
    rw [Bool.eq_iff_iff]; simp; omega
  rw [this]

theorem note_list : (note.toList == [92]) = true := by simp [note, Go.Lib.toList_data]

theorem ext_of_list {a : ByteArray} (h : a.toList = [92]) : a = note := by
  have : a.data.toList = [92] := by rw [← Go.Lib.toList_data]; exact h
  have e : a.data = #[92] := by rw [← Array.toArray_toList (xs := a.data), this]
  cases a; simp_all [note]

theorem own_base {w : World} {base : Nat} {e : TypeId} {size : Nat} {v : Value} {n : Nat} {xs : List Value} (h : w.ownsRow base e size v n xs) {k : Nat} (hk : v.ownBlock = some k) : base ≤ k := by
  rcases h.2 with ⟨rfl, _⟩ | ⟨g, cap, cur, rfl, hg, _⟩
  · cases hk
  · simp [Value.ownBlock] at hk; omega

theorem news2 (w : World) (a b : Value) (t : TypeId) : ∀ j u, [a, b][j]? = some u → (w.alloc (.cells #[a, b] t)).cell? ((⟨w.heap.size, 0, none⟩ : Addr).add j) = some u := by
  intro k u hu
  match k, hu with
  | 0, hu => simp at hu; subst hu; simp [Addr.add]
  | 1, hu => simp at hu; subst hu; simp [Addr.add]
theorem one2 (a : ByteArray) (k : IntKind) (b : Int) : ∀ u ∈ [Value.string a, Value.int k b], u.oneCell' = true := by
  intro u hu; simp at hu; rcases hu with rfl | rfl <;> rfl

theorem Tryz.infoTk : (Tryz.prog.info? 213).map (fun i => (i.zero, i.size, i.bytes)) = some (some (.agg #[.string ⟨#[]⟩, .int .i64 0]), 2, 24) := by kernel_rfl

set_option maxHeartbeats 1000000 in
set_option maxRecDepth 100000 in
theorem ref_tokens (s : ByteArray) (w : World) (hs : s.size ≤ 1000000000) :
    Calls Tryz.prog 87 #[.string s] w fun e w' => ∃ v, e = .returned v ∧ w'.ownsRow w.heap.size 213 2 v (toksAt s 0).length (tkCells (toksAt s 0)) ∧ Below w.heap.size w w' := by
  obtain ⟨i0, hi, hz0, hz1, hz2⟩ := info_parts Tryz.infoTk
  obtain ⟨T, hT⟩ : ∃ T, T = toksAt s 0 := ⟨_, rfl⟩
  rw [← hT]
  go_enter Tryz.func87, Tryz.ntmps87
  go_wp2
  go_loopw [3, 4] (fun v i wr => ∃ (j : Nat) (acc : List Tk), j ≤ s.size ∧ acc.length ≤ j ∧ i = .int .i64 j ∧ wr.ownsRow w.heap.size 213 2 v acc.length (tkCells acc) ∧ Below w.heap.size w wr ∧ Hid (T = acc ++ toksAt s j)) (fun _ i _ => s.size - (intOf i).toNat)
  case atStart => exact ⟨0, [], Nat.zero_le _, Nat.le_refl _, rfl, World.ownsRow_nil _ _ _ _, Below.refl _ _, hT⟩
  case round =>
    clear hT
    obtain ⟨j, acc, hj, hacc, rfl, hown, hbel, HT⟩ := hrel
    by_cases hlt : j < s.size
    · obtain ⟨c, hcd⟩ : ∃ c : Int, c = byt s j := ⟨_, rfl⟩
      have hck : ((s[j]'hlt).toNat : Int) = c := by rw [byt_eq, hcd]
      by_cases hb : blk (byt s j) = true
      · have hbl := blank_of s j true hb c hcd
        have HT2 : Hid (T = acc ++ toksAt s (j + 1)) := by show T = _; rw [← toksAt_blank s j hlt hb]; exact HT.out
        have HB : Hid _ := hbl
        clear hbl hcd hb
        go_wp2_with (go_at_call 127; refine (HB.out _).mono ?_; rintro e w' ⟨rfl, rfl⟩)
        go_roundw
        case rel => exact ⟨j + 1, acc, by omega, by omega, by go_num, hown, hbel, HT2⟩
        case measure => simp [intOf]; omega
      · have hb' : blk (byt s j) = false := by simpa using hb
        have hbl := blank_of s j false hb' c hcd
        have HB : Hid _ := hbl
        have HN : Hid (blk (byt s j) = false) := hb'
        clear hbl hcd hb hb'
        go_wp2_with (go_at_call 127; refine (HB.out _).mono ?_; rintro e w' ⟨rfl, rfl⟩)
        go_loop [5] (fun k => ∃ m : Nat, j ≤ m ∧ m ≤ s.size ∧ k = .int .i64 m ∧ Hid (∀ x, j ≤ x → x < m → blk (byt s x) = false)) (fun k => s.size - (intOf k).toNat)
        case atStart => exact ⟨j, Nat.le_refl _, by omega, rfl, fun x a b => by omega⟩
        case round =>
          obtain ⟨m, hm1, hm2, rfl, HM⟩ := hrel
          have out : ∀ (_ : m = s.size ∨ blk (byt s m) = true), scan blk s j = m := fun h => scan_eq hm1 hm2 HM.out h
          have HO : Hid _ := out
          clear out
          by_cases hms : m < s.size
          · obtain ⟨d, hdd⟩ : ∃ d : Int, d = byt s m := ⟨_, rfl⟩
            have hdk : ((s[m]'hms).toNat : Int) = d := by rw [byt_eq, hdd]
            by_cases hbm : blk (byt s m) = true
            · have HB2 : Hid _ := blank_of s m true hbm d hdd
              have HS : Hid (scan blk s j = m) := HO.out (Or.inr hbm)
              clear hbm hdd
              by_cases hn : s.extract j m = note
              · have ht : ((s.extract j m).toList == [92]) = true := by rw [hn]; exact note_list
                have HT2 : Hid (T = acc ++ toksAt s (scan eol s m)) := by
                  show T = _
                  have e := toksAt_note s j hlt HN.out (by rw [HS.out]; exact hn)
                  rw [HS.out] at e
                  rw [← e]; exact HT.out
                clear hn
                go_wp2_with (go_at_call 127; refine (HB2.out _).mono ?_; rintro e w' ⟨rfl, rfl⟩; clear hdk hck)
                go_loop [5] (fun k => ∃ x : Nat, m ≤ x ∧ x ≤ s.size ∧ k = .int .i64 x ∧ Hid (∀ y, m ≤ y → y < x → eol (byt s y) = false)) (fun k => s.size - (intOf k).toNat)
                case atStart => exact ⟨m, Nat.le_refl _, hm2, rfl, fun y a b => by omega⟩
                case round =>
                  obtain ⟨x, hx1, hx2, rfl, HX⟩ := hrel
                  by_cases hxs : x < s.size
                  · obtain ⟨d2, hdd2⟩ : ∃ d2 : Int, d2 = byt s x := ⟨_, rfl⟩
                    have hdk2 : ((s[x]'hxs).toNat : Int) = d2 := by rw [byt_eq, hdd2]
                    by_cases hbx : byt s x = 10
                    · have HQ : Hid (scan eol s m = x) := scan_eq hx1 hx2 HX.out (Or.inr (by simp [eol, hbx]))
                      have hd10 : (d2 == 10) = true := by simp; omega
                      clear hbx hdd2
                      go_wp2_with fail
                      go_roundw
                      case rel =>
                        refine ⟨x, acc, hx2, by omega, by go_num, hown, hbel, ?_⟩
                        have := HT2.out; rw [HQ.out] at this; exact this
                      case measure => have := scan_blk_lt s j hlt HN.out; have := HS.out; simp [intOf]; omega
                    · have HE : Hid (eol (byt s x) = false) := by show eol _ = _; simp [eol, hbx]
                      have hd10 : (d2 == 10) = false := by simp; omega
                      clear hbx hdd2
                      go_wp2_with fail
                      go_round
                      case rel =>
                        refine ⟨x + 1, by omega, by omega, by go_num, fun y a b => ?_⟩
                        by_cases e : y = x
                        · subst e; exact HE.out
                        · exact HX.out y a (by omega)
                      case measure => simp [intOf]; omega
                  · have HQ : Hid (scan eol s m = x) := scan_eq hx1 hx2 HX.out (Or.inl (by omega))
                    go_wp2_with fail
                    go_roundw
                    case rel =>
                      refine ⟨x, acc, hx2, by omega, by go_num, hown, hbel, ?_⟩
                      have := HT2.out; rw [HQ.out] at this; exact this
                    case measure => have := scan_blk_lt s j hlt HN.out; have := HS.out; simp [intOf]; omega
              · have ht : ((s.extract j m).toList == [92]) = false := by
                  rw [beq_eq_false_iff_ne]; intro e; apply hn
                  exact ext_of_list e
                have HT2 : Hid (T = (acc ++ [(s.extract j m, j)]) ++ toksAt s m) := by
                  show T = _
                  have e := toksAt_tok s j hlt HN.out (by rw [HS.out]; exact hn)
                  rw [HS.out] at e
                  rw [List.append_assoc, List.singleton_append, ← e]; exact HT.out
                have hjm : j < m := by have := scan_blk_lt s j hlt HN.out; have := HS.out; omega
                clear hn
                go_wp2_with (first | (at_builtin; refine wpList_append_own _ rfl _ _ 179 rfl w.heap.size 213 i0 (.agg #[.string ⟨#[]⟩, .int .i64 0]) 2 24 Tryz.underlying179 hi hz0 hz1 hz2 rfl (by decide) _ _ _ rfl (hown.alloc _) ⟨w'.heap.size, 0, none⟩ 1 1 [.string (s.extract j m), .int .i64 j] rfl rfl (news2 _ _ _ _) (one2 _ _ _) (by unfold maxLen; omega) (by omega) (by have := hbel.size; simp; omega) ?_) | (go_at_call 127; refine (HB2.out _).mono ?_; rintro e w' ⟨rfl, rfl⟩; clear hdk hck))
                · intro v' w1 hown' hgrow _
                  have hsz := hbel.size
                  have hbel' : Below w.heap.size w w1 := (hbel.alloc hsz _).grown hgrow (by simp; omega) (fun k hk => own_base hown hk)
                  clear hgrow hown
                  go_wp2_with fail
                  go_roundw
                  case rel =>
                    refine ⟨m, acc ++ [(s.extract j m, j)], hm2, by simp; omega, by go_num, ?_, hbel', HT2⟩
                    rw [tkCells_snoc]; simpa using hown'
                  case measure => simp [intOf]; omega
            · have HB2 : Hid _ := blank_of s m false (by simpa using hbm) d hdd
              have HX : Hid (blk (byt s m) = false) := by show _ = _; simpa using hbm
              clear hbm hdd
              go_wp2_with (go_at_call 127; refine (HB2.out _).mono ?_; rintro e w' ⟨rfl, rfl⟩)
              go_round
              case rel =>
                refine ⟨m + 1, by omega, by omega, by go_num, fun x a b => ?_⟩
                by_cases e : x = m
                · subst e; exact HX.out
                · exact HM.out x a (by omega)
              case measure => simp [intOf]; omega
          · have HS : Hid (scan blk s j = m) := HO.out (Or.inl (by omega))
            clear hck
            by_cases hn : s.extract j m = note
            · have ht : ((s.extract j m).toList == [92]) = true := by rw [hn]; exact note_list
              have HT2 : Hid (T = acc ++ toksAt s (scan eol s m)) := by
                show T = _
                have e := toksAt_note s j hlt HN.out (by rw [HS.out]; exact hn)
                rw [HS.out] at e
                rw [← e]; exact HT.out
              clear hn
              go_wp2_with fail
              go_loop [5] (fun k => ∃ x : Nat, m ≤ x ∧ x ≤ s.size ∧ k = .int .i64 x ∧ Hid (∀ y, m ≤ y → y < x → eol (byt s y) = false)) (fun k => s.size - (intOf k).toNat)
              case atStart => exact ⟨m, Nat.le_refl _, hm2, rfl, fun y a b => by omega⟩
              case round =>
                obtain ⟨x, hx1, hx2, rfl, HX⟩ := hrel
                by_cases hxs : x < s.size
                · exfalso; omega
                · have HQ : Hid (scan eol s m = x) := scan_eq hx1 hx2 HX.out (Or.inl (by omega))
                  go_wp2_with fail
                  go_roundw
                  case rel =>
                    refine ⟨x, acc, hx2, by omega, by go_num, hown, hbel, ?_⟩
                    have := HT2.out; rw [HQ.out] at this; exact this
                  case measure => have := scan_blk_lt s j hlt HN.out; have := HS.out; simp [intOf]; omega
            · have ht : ((s.extract j m).toList == [92]) = false := by
                rw [beq_eq_false_iff_ne]; intro e; apply hn
                exact ext_of_list e
              have HT2 : Hid (T = (acc ++ [(s.extract j m, j)]) ++ toksAt s m) := by
                show T = _
                have e := toksAt_tok s j hlt HN.out (by rw [HS.out]; exact hn)
                rw [HS.out] at e
                rw [List.append_assoc, List.singleton_append, ← e]; exact HT.out
              have hjm : j < m := by have := scan_blk_lt s j hlt HN.out; have := HS.out; omega
              clear hn
              go_wp2_with (at_builtin; refine wpList_append_own _ rfl _ _ 179 rfl w.heap.size 213 i0 (.agg #[.string ⟨#[]⟩, .int .i64 0]) 2 24 Tryz.underlying179 hi hz0 hz1 hz2 rfl (by decide) _ _ _ rfl (hown.alloc _) ⟨w'.heap.size, 0, none⟩ 1 1 [.string (s.extract j m), .int .i64 j] rfl rfl (news2 _ _ _ _) (one2 _ _ _) (by unfold maxLen; omega) (by omega) (by have := hbel.size; simp; omega) ?_)
              · intro v' w1 hown' hgrow _
                have hsz := hbel.size
                have hbel' : Below w.heap.size w w1 := (hbel.alloc hsz _).grown hgrow (by simp; omega) (fun k hk => own_base hown hk)
                clear hgrow hown
                go_wp2_with fail
                go_roundw
                case rel =>
                  refine ⟨m, acc ++ [(s.extract j m, j)], hm2, by simp; omega, by go_num, ?_, hbel', HT2⟩
                  rw [tkCells_snoc]; simpa using hown'
                case measure => simp [intOf]; omega
    · go_wp2_with fail
      go_ret
      have e : j = s.size := by omega
      have := HT.out
      rw [toksAt_end s j (by omega), List.append_nil] at this
      subst this
      exact ⟨_, rfl, hown, hbel⟩

end Go.Proofs.YtcphhbofjkenaaaGreatDoor
