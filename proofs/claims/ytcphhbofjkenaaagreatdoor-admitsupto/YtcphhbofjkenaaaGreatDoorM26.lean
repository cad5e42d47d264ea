/- The program: a text that is broken. -/
import Derived.Test.YtcphhbofjkenaaaGreatDoorM22
import Derived.Test.YtcphhbofjkenaaaGreatDoorM23
import Derived.Test.YtcphhbofjkenaaaGreatDoorM24
import Derived.Test.YtcphhbofjkenaaaGreatDoorM25

namespace Go.Proofs.YtcphhbofjkenaaaGreatDoor
open Go Go.RowKit
set_option linter.unusedVariables false
set_option linter.unusedSimpArgs false

def isBad (s : ByteArray) (pos : Nat) : Bool := ((Utf8.decode s pos).1 == 65533) && !Lib.hasPrefix (s.extract pos s.size).data.toList [239, 191, 189]
/-- The first place at which a character would have to begin and none does. -/
def badF (s : ByteArray) : Nat → Nat → Option Nat
  | 0, _ => none
  | f + 1, pos => if pos < s.size then (if isBad s pos = true then some pos else badF s f (pos + (Utf8.decode s pos).2)) else none
def badRes : Option Nat → Value
  | some k => .tuple #[.int .i64 k, .bool true]
  | none => .tuple #[.int .i64 0, .bool false]

set_option maxRecDepth 100000 in
set_option maxHeartbeats 2000000 in
theorem tok_broken (s : ByteArray) (w : World) (hs : s.size ≤ 100000000) :
    Calls Tryz.prog 76 #[.string s] w fun e w' => e = .returned (badRes (badF s s.size 0)) ∧ Below w.heap.size w w' := by
  obtain ⟨R, hR⟩ : ∃ R, R = badF s s.size 0 := ⟨_, rfl⟩
  rw [← hR]
  have HR := hidden hR
  have HS := hidden hs
  clear hR hs
  go_enter Tryz.func76, Tryz.ntmps76
  go_wp2_with fail
  go_loopw [4] (fun _ wr => ∃ (pos fu : Nat), wr = w.iter s pos ∧ pos ≤ s.size ∧ s.size ≤ pos + fu ∧ Hid (R = badF s fu pos)) (fun _ wr => s.size - wr.iterPos w.heap.size)
  case atStart => exact ⟨0, s.size, rfl, by omega, by omega, HR⟩
  case round =>
    obtain ⟨pos, fu, rfl, hpl, hfu, HRR⟩ := hrel
    by_cases hp : pos < s.size
    · have hnx : ∀ ty, (Instr.next (.pointer (some ⟨w.heap.size, 0, none⟩)) true ty).run Tryz.prog (w.iter s pos) = _ := fun ty => run_next_any w s pos ty hp
      have hwd := Lib.decode_width_pos s pos hp
      have hend := decode_end_le s pos hp
      obtain ⟨c, hc⟩ : ∃ c : Int, c = ((Utf8.decode s pos).1 : Int) := ⟨_, rfl⟩
      obtain ⟨wd, hwdd⟩ : ∃ wd, wd = (Utf8.decode s pos).2 := ⟨_, rfl⟩
      rw [← hc, ← hwdd] at hnx
      rw [← hwdd] at hwd hend
      have hps : (pos : Int) ≤ (s.size : Int) := by omega
      have hp0 : (0 : Int) ≤ (pos : Int) := by omega
      have HC := hidden hc; have HWD := hidden hwdd; have HP := hidden hp; have HPL := hidden hpl; have HFU := hidden hfu; have HW := hidden hwd; have HE := hidden hend
      clear hc hwdd hp hpl hfu hwd hend
      by_cases hr : (c == 65533) = true
      · go_wp2_with fail
        refine (Tryz.strings_HasPrefix (s.extract pos s.size) ⟨#[239, 191, 189]⟩ _).mono ?_
        rintro e w1 ⟨rfl, rfl⟩
        have hcn : ((Utf8.decode s pos).1 == 65533) = true := by
          have h1 : c = 65533 := by simpa using hr
          have h2 := HC.out
          rw [beq_iff_eq]; omega
        by_cases hq : Lib.hasPrefix (s.extract pos s.size).data.toList [239, 191, 189] = true
        · have hq2 : Lib.hasPrefix (s.extract pos s.size).data.toList (⟨#[239, 191, 189]⟩ : ByteArray).data.toList = true := hq
          have HBAD := hidden (show isBad s pos = false by rw [isBad, hcn, hq]; rfl)
          rw [hq2]
          clear hq hq2 hcn
          go_wp2_with fail
          go_roundw
          case rel =>
            cases fu with
            | zero => have := HFU.out; have := HP.out; omega
            | succ fu =>
              refine ⟨pos + wd, fu, rfl, HE.out, by have := HFU.out; have := HW.out; omega, ?_⟩
              have := HRR.out
              rw [badF, if_pos HP.out, if_neg (by rw [HBAD.out]; exact Bool.false_ne_true), ← HWD.out] at this
              exact this
          case measure =>
            have := HW.out; have := HP.out
            simp
            omega

        · have hq0 : Lib.hasPrefix (s.extract pos s.size).data.toList [239, 191, 189] = false := by simpa using hq
          have hq2 : Lib.hasPrefix (s.extract pos s.size).data.toList (⟨#[239, 191, 189]⟩ : ByteArray).data.toList = false := hq0
          have HX := hidden (show R = some pos by
            have := HRR.out
            have hb : isBad s pos = true := by rw [isBad, hcn, hq0]; rfl
            cases fu with
            | zero => have := HFU.out; have := HP.out; omega
            | succ fu => rw [badF, if_pos HP.out, if_pos hb] at this; exact this)
          rw [hq2]
          clear hq hq0 hq2 hcn
          go_wp2_with fail
          refine bodyPost_ret (v := .tuple #[.int .i64 pos, .bool true]) (by simp [results, Tryz.results76, go_sem]) rfl ⟨?_, (Below.refl _ _).alloc (Nat.le_refl _) _⟩
          rw [HX.out]; rfl
      · have hr' : (c == 65533) = false := by simpa using hr
        have HBAD := hidden (show isBad s pos = false by
          have h1 : ((Utf8.decode s pos).1 == 65533) = false := by
            have h2 := HC.out
            have h3 : ¬ c = 65533 := by simpa using hr
            rw [beq_eq_false_iff_ne]; omega
          rw [isBad, h1]; rfl)
        go_wp2_with fail
        go_roundw
        case rel =>
          cases fu with
          | zero => have := HFU.out; have := HP.out; omega
          | succ fu =>
            refine ⟨pos + wd, fu, rfl, HE.out, by have := HFU.out; have := HW.out; omega, ?_⟩
            have := HRR.out
            rw [badF, if_pos HP.out, if_neg (by rw [HBAD.out]; exact Bool.false_ne_true), ← HWD.out] at this
            exact this
        case measure =>
          have := HW.out; have := HP.out
          simp
          omega
    · have hnx : ∀ ty, (Instr.next (.pointer (some ⟨w.heap.size, 0, none⟩)) true ty).run Tryz.prog (w.iter s pos) = _ := fun ty => run_next_end w s pos ty hp
      have HX := hidden (show R = none by
        have := HRR.out
        cases fu with
        | zero => exact this
        | succ fu => rw [badF, if_neg hp] at this; exact this)
      clear hp hpl hfu
      go_wp2_with fail
      refine bodyPost_ret (v := .tuple #[.int .i64 0, .bool false]) (by simp [results, Tryz.results76, go_sem]) rfl ⟨?_, (Below.refl _ _).alloc (Nat.le_refl _) _⟩
      rw [HX.out]; rfl

end Go.Proofs.YtcphhbofjkenaaaGreatDoor

/- A text that is broken, its characters, a name: the program's are the document's. -/
namespace Go.Proofs.YtcphhbofjkenaaaGreatDoor
set_option linter.unusedVariables false
set_option linter.unusedSimpArgs false
open Go

/-- What a decoded character may be. -/
theorem decode_kind (s : ByteArray) (i : Nat) (h : i < s.size) : (byt s i < 128 ∧ Utf8.decode s i = (byt s i, 1)) ∨ (128 ≤ byt s i ∧ Utf8.decode s i = (65533, 1)) ∨
    (128 ≤ byt s i ∧ (Utf8.decode s i).2 = 2 ∧ (Utf8.decode s i).1 < 2048) ∨ (128 ≤ byt s i ∧ (Utf8.decode s i).2 = 4 ∧ 65536 ≤ (Utf8.decode s i).1) ∨
    (byt s i / 16 = 14 ∧ i + 2 < s.size ∧ byt s (i + 1) / 64 = 2 ∧ byt s (i + 2) / 64 = 2 ∧ (Utf8.decode s i).2 = 3 ∧ (Utf8.decode s i).1 = (byt s i % 16) * 4096 + (byt s (i + 1) % 64) * 64 + byt s (i + 2) % 64) := by
  have hb := byt_lt s i
  have hb1 := byt_lt s (i + 1)
  unfold Utf8.decode
  simp only [Nat.add_zero]
  have hf : ∀ k, (s.get! k).toNat = byt s k := fun _ => rfl
  simp only [hf]
  split
  · left; exact ⟨by assumption, rfl⟩
  · rename_i h1
    split
    · split
      · right; right; left
        refine ⟨by omega, rfl, ?_⟩
        simp only; omega
      · right; left; exact ⟨by omega, rfl⟩
    · split
      · rename_i h3
        simp only [Bool.and_eq_true, beq_iff_eq, decide_eq_true_eq] at h3
        split
        · right; right; right; right
          exact ⟨h3.1.1, h3.2.1, h3.1.2.2, h3.2.2, rfl, rfl⟩
        · right; left; exact ⟨by omega, rfl⟩
      · split
        · split
          · rename_i h5
            right; right; right; left
            simp only [Bool.and_eq_true, decide_eq_true_eq] at h5
            exact ⟨by omega, rfl, h5.1⟩
          · right; left; exact ⟨by omega, rfl⟩
        · right; left; exact ⟨by omega, rfl⟩

theorem pre3 (s : ByteArray) (i : Nat) : Lib.hasPrefix (s.extract i s.size).data.toList [239, 191, 189] = true ↔ i + 2 < s.size ∧ byt s i = 239 ∧ byt s (i + 1) = 191 ∧ byt s (i + 2) = 189 := by
  have hl : s.data.toList.length = s.size := Array.length_toList
  have hd : (s.extract i s.size).data.toList = s.data.toList.drop i := by
    rw [ByteArray.data_extract, Array.toList_extract]
    simp only [List.extract_eq_take_drop]
    rw [List.take_of_length_le]
    simp [hl]
  rw [hd]
  have key : ∀ k, k < s.size → ∃ c, s.data.toList.drop k = c :: s.data.toList.drop (k + 1) ∧ c.toNat = byt s k := fun k hk => by
    obtain ⟨c, hc, hb⟩ := byt_data s k hk
    refine ⟨c, ?_, hb⟩
    rw [List.drop_eq_getElem_cons (by omega)]
    rw [List.getElem?_eq_getElem (by omega)] at hc
    rw [Option.some.inj hc]
  have tn : ∀ (c : UInt8) (n : Nat), n < 256 → (c = UInt8.ofNat n ↔ c.toNat = n) := fun c n hn => by
    constructor
    · rintro rfl; simp; omega
    · intro e; exact UInt8.toNat_inj.1 (by rw [e]; simp; omega)
  by_cases h2 : i + 2 < s.size
  · obtain ⟨c0, e0, b0⟩ := key i (by omega)
    obtain ⟨c1, e1, b1⟩ := key (i + 1) (by omega)
    obtain ⟨c2, e2, b2⟩ := key (i + 2) h2
    rw [e0, e1, e2, ← b0, ← b1, ← b2]
    simp only [Lib.hasPrefix, List.isPrefixOf, Bool.and_true, Bool.and_eq_true, beq_iff_eq]
    have t0 := tn c0 239 (by omega); have t1 := tn c1 191 (by omega); have t2 := tn c2 189 (by omega)
    constructor
    · rintro ⟨rfl, rfl, rfl⟩; exact ⟨h2, rfl, rfl, rfl⟩
    · rintro ⟨_, x, y, z⟩; exact ⟨(t0.2 x).symm, (t1.2 y).symm, (t2.2 z).symm⟩
  · constructor
    · intro h
      exfalso
      have := (List.isPrefixOf_iff_prefix.1 h).length_le
      simp only [List.length_cons, List.length_nil, List.length_drop] at this
      omega
    · intro h; exact absurd h.1 h2

theorem bad_wd (s : ByteArray) (i : Nat) (h : i < s.size) : isBad s i = true ↔ wd s i = 0 := by
  have hb := byt_lt s i
  have hb1 := byt_lt s (i + 1)
  have hb2 := byt_lt s (i + 2)
  have hp := pre3 s i
  unfold isBad wd
  rcases decode_kind s i h with ⟨k1, k2⟩ | ⟨k1, k2⟩ | ⟨k1, k2, k3⟩ | ⟨k1, k2, k3⟩ | ⟨k1, k2, k3, k4, k5, k6⟩
  · rw [k2, if_pos k1]
    have : (byt s i == 65533) = false := by rw [beq_eq_false_iff_ne]; omega
    simp [this]
  · rw [k2, if_neg (by omega)]
    cases hq : Lib.hasPrefix (s.extract i s.size).data.toList [239, 191, 189] with
    | false => simp
    | true =>
      exfalso
      obtain ⟨q1, q2, q3, q4⟩ := hp.1 hq
      have hcl : Cls (byt s i) 3 128 191 := by unfold Cls; omega
      have := decode_cls s i 3 128 191 h hcl
      rw [k2, q2, q3, q4] at this
      unfold Lib.slowN at this
      rw [if_neg (by omega), if_neg (by omega), if_neg (by omega), if_neg (by omega), if_pos (by omega)] at this
      exact absurd (congrArg Prod.snd this) (by decide)
  · have : ((Utf8.decode s i).1 == 65533) = false := by rw [beq_eq_false_iff_ne]; omega
    rw [if_neg (by omega), k2, this]; simp
  · have : ((Utf8.decode s i).1 == 65533) = false := by rw [beq_eq_false_iff_ne]; omega
    rw [if_neg (by omega), k2, this]; simp
  · rw [if_neg (by omega), k5, k6, if_neg (by omega)]
    constructor
    · intro hc
      simp only [Bool.and_eq_true, beq_iff_eq, Bool.not_eq_true'] at hc
      have := hp.2 ⟨k2, by omega, by omega, by omega⟩
      rw [this] at hc
      exact absurd hc.2 (by decide)
    · intro hc; omega

theorem wd_dec (s : ByteArray) (i : Nat) (h : i < s.size) (h0 : wd s i ≠ 0) : (Utf8.decode s i).2 = wd s i := by
  unfold wd at h0 ⊢
  rcases decode_kind s i h with ⟨k1, k2⟩ | ⟨k1, k2⟩ | ⟨k1, k2, k3⟩ | ⟨k1, k2, k3⟩ | ⟨k1, k2, k3, k4, k5, k6⟩
  · rw [k2, if_pos k1]
  · rw [k2, if_neg (by omega), if_pos rfl] at h0; exact absurd rfl h0
  · rw [if_neg (by omega), k2]; rfl
  · rw [if_neg (by omega), k2]; rfl
  · rw [if_neg (by omega), k5]; rfl

/-- The characters of a text, or where it is broken. -/
theorem chars_bad (s : ByteArray) : ∀ (f i n : Nat), chars s f i n = match badF s f i with | some k => (-1, (k : Int)) | none => (((n + Lib.runeCountFrom s f i : Nat) : Int), 0)
  | 0, i, n => by simp [chars, badF, Lib.runeCountFrom]
  | f + 1, i, n => by
    unfold chars badF Lib.runeCountFrom
    by_cases h : i < s.size
    · rw [if_pos h, if_pos h, if_pos h]
      have hbw := bad_wd s i h
      by_cases h0 : wd s i = 0
      · rw [if_pos h0, if_pos (hbw.2 h0)]
      · rw [if_neg h0, if_neg (fun e => h0 (hbw.1 e)), wd_dec s i h h0, chars_bad s f (i + wd s i) (n + 1)]
        have e : n + 1 + Lib.runeCountFrom s f (i + wd s i) = n + (1 + Lib.runeCountFrom s f (i + wd s i)) := by omega
        rw [e]
    · rw [if_neg h, if_neg h, if_neg h]
      simp

/-- A name of whole characters. -/
theorem name_eq (s : ByteArray) (h : badF s s.size 0 = none) : nameP s = nameS s := by
  unfold nameP nameS
  rw [chars_bad, h, (num_eq s).1]
  simp only [Nat.zero_add]
  have hc : Lib.runeCountFrom s s.size 0 = Lib.runeCount s := rfl
  rw [hc]
  have h1 : (!(s.toList == [])) = decide ((1 : Int) ≤ ((Lib.runeCount s : Nat) : Int)) := by
    rw [Bool.eq_iff_iff]
    simp only [Bool.not_eq_true', beq_eq_false_iff_ne, ne_eq, decide_eq_true_eq]
    constructor
    · intro hne
      have hz : 0 < s.size := by
        rcases Nat.eq_zero_or_pos s.size with e | e
        · exfalso; apply hne; rw [ba_data]; exact List.length_eq_zero_iff.1 (by rw [Array.length_toList]; exact e)
        · exact e
      obtain ⟨m, hm⟩ : ∃ m, s.size = m + 1 := ⟨s.size - 1, by omega⟩
      have : Lib.runeCount s = 1 + Lib.runeCountFrom s m (0 + (Utf8.decode s 0).2) := by
        unfold Lib.runeCount
        rw [hm]
        unfold Lib.runeCountFrom
        rw [if_pos (by omega)]
        cases m <;> rfl
      omega
    · intro h1 e
      have hz : s.size = 0 := by
        rw [ba_data] at e
        have := congrArg List.length e
        rw [Array.length_toList] at this
        exact this
      have : Lib.runeCount s = 0 := by unfold Lib.runeCount; rw [hz]; rfl
      omega
  have h2 : decide (Lib.runeCount s ≤ 16) = decide (((Lib.runeCount s : Nat) : Int) ≤ 16) := by
    rw [Bool.eq_iff_iff]; simp only [decide_eq_true_eq]; omega
  rw [h1, h2]
  cases decide ((1 : Int) ≤ ((Lib.runeCount s : Nat) : Int)) <;> cases decide (((Lib.runeCount s : Nat) : Int) ≤ 16) <;> cases inL s nine <;> cases (numS s).2 <;> rfl

end Go.Proofs.YtcphhbofjkenaaaGreatDoor

/- Places at which a character begins. -/
namespace Go.Proofs.YtcphhbofjkenaaaGreatDoor
open Go

/-- Behind a character's first byte no byte is below 128. -/
theorem wd_tail (s : ByteArray) (i : Nat) (h : i < s.size) : ∀ d, 0 < d → d < wd s i → 128 ≤ byt s (i + d) := by
  intro d h0 hd
  by_cases hw : wd s i = 0
  · omega
  have hdec := wd_dec s i h hw
  rw [← hdec] at hd
  clear hdec hw
  have hf : ∀ k, (s.get! k).toNat = byt s k := fun _ => rfl
  unfold Utf8.decode at hd
  simp only [Nat.add_zero, hf] at hd
  split at hd
  · simp only at hd; omega
  · split at hd
    · rename_i h2
      simp only [Bool.and_eq_true, beq_iff_eq, decide_eq_true_eq] at h2
      have e1 : d = 1 := by split at hd <;> simp only at hd <;> omega
      subst e1; omega
    · split at hd
      · rename_i h3
        simp only [Bool.and_eq_true, beq_iff_eq, decide_eq_true_eq] at h3
        have e1 : d = 1 ∨ d = 2 := by split at hd <;> simp only at hd <;> omega
        rcases e1 with rfl | rfl <;> omega
      · split at hd
        · rename_i h4
          simp only [Bool.and_eq_true, beq_iff_eq, decide_eq_true_eq] at h4
          have e1 : d = 1 ∨ d = 2 ∨ d = 3 := by split at hd <;> simp only at hd <;> omega
          rcases e1 with rfl | rfl | rfl <;> omega
        · simp only at hd; omega

/-- More fuel than bytes changes nothing. -/
theorem badF_fuel (s : ByteArray) : ∀ (f g i : Nat), s.size ≤ i + f → s.size ≤ i + g → badF s f i = badF s g i
  | 0, g, i, hf, hg => by cases g with | zero => rfl | succ g => unfold badF; rw [if_neg (by omega)]
  | f + 1, 0, i, hf, hg => by unfold badF; rw [if_neg (by omega)]
  | f + 1, g + 1, i, hf, hg => by
    unfold badF
    by_cases h : i < s.size
    · rw [if_pos h, if_pos h]
      have hp := Lib.decode_width_pos s i h
      rw [badF_fuel s f g _ (by omega) (by omega)]
    · rw [if_neg h, if_neg h]

/-- No character is broken from here on. -/
def Sound (s : ByteArray) (i : Nat) : Prop := badF s s.size i = none

theorem Sound.step {s : ByteArray} {i : Nat} (h : Sound s i) (hi : i < s.size) : wd s i ≠ 0 ∧ Sound s (i + wd s i) := by
  unfold Sound at h
  rw [badF_fuel s s.size (s.size + 1) i (by omega) (by omega)] at h
  unfold badF at h
  rw [if_pos hi] at h
  have hb := bad_wd s i hi
  by_cases h0 : isBad s i = true
  · rw [if_pos h0] at h; cases h
  · have hw : wd s i ≠ 0 := fun e => h0 (hb.2 e)
    rw [if_neg h0, wd_dec s i hi hw] at h
    exact ⟨hw, h⟩

/-- A place whose byte is below 128 is one, and the text's end. -/
theorem Sound.at {s : ByteArray} : ∀ (d i j : Nat), j - i ≤ d → i ≤ j → Sound s i → (j < s.size → byt s j < 128) → j ≤ s.size → Sound s j
  | 0, i, j, hd, hij, h, hb, hj => by rw [show j = i by omega]; exact h
  | d + 1, i, j, hd, hij, h, hb, hj => by
    by_cases e : j = i
    · rw [e]; exact h
    · have hi : i < s.size := by omega
      obtain ⟨hw, hs⟩ := h.step hi
      have hin := wd_in s i hi
      by_cases hle : i + wd s i ≤ j
      · exact Sound.at d (i + wd s i) j (by omega) hle hs hb hj
      · exfalso
        have hjs : j < s.size := by omega
        have := wd_tail s i hi (j - i) (by omega) (by omega)
        rw [show i + (j - i) = j by omega] at this
        have := hb hjs
        omega

end Go.Proofs.YtcphhbofjkenaaaGreatDoor

/- A token of a text that is not broken is not broken. -/
namespace Go.Proofs.YtcphhbofjkenaaaGreatDoor
open Go

theorem byt_ext (s : ByteArray) (b e p : Nat) (he : e ≤ s.size) (hp : b + p < e) : byt (s.extract b e) p = byt s (b + p) := by
  have h1 : p < (s.extract b e).size := by rw [ByteArray.size_extract]; omega
  rw [← byt_eq (s.extract b e) p h1, ← byt_eq s (b + p) (by omega)]
  rw [ByteArray.getElem_extract]

theorem wd_ext (s : ByteArray) (b e p : Nat) (he : e ≤ s.size) (hw : wd s (b + p) ≠ 0) (hin : b + p + wd s (b + p) ≤ e) : wd (s.extract b e) p = wd s (b + p) := by
  have hsz : (s.extract b e).size = e - b := by rw [ByteArray.size_extract]; omega
  have hB : ∀ k, b + (p + k) < e → byt (s.extract b e) (p + k) = byt s (b + p + k) := fun k hk => by rw [byt_ext s b e (p + k) he hk, Nat.add_assoc]
  have h0 := hB 0 (by omega)
  simp only [Nat.add_zero] at h0
  by_cases h1 : byt s (b + p) < 128
  · rw [wd_one s _ h1, wd_one _ _ (by rw [h0]; exact h1)]
  · have hlt := byt_lt s (b + p)
    have hr : ¬ ((128 ≤ byt s (b + p) ∧ byt s (b + p) < 194) ∨ 244 < byt s (b + p)) := fun h => hw (wd_bad s _ h)
    have hcl : ∃ n lo hi, Cls (byt s (b + p)) n lo hi := by
      unfold Cls
      by_cases q1 : byt s (b + p) < 224
      · exact ⟨2, 128, 191, by omega⟩
      by_cases q2 : byt s (b + p) = 224
      · exact ⟨3, 160, 191, by omega⟩
      by_cases q3 : byt s (b + p) = 237
      · exact ⟨3, 128, 159, by omega⟩
      by_cases q4 : byt s (b + p) < 240
      · exact ⟨3, 128, 191, by omega⟩
      by_cases q5 : byt s (b + p) = 240
      · exact ⟨4, 144, 191, by omega⟩
      by_cases q6 : byt s (b + p) = 244
      · exact ⟨4, 128, 143, by omega⟩
      exact ⟨4, 128, 191, by omega⟩
    obtain ⟨n, lo, hi, hc⟩ := hcl
    have hn := hc.n2
    have hi' : b + p < s.size := by omega
    by_cases hyes : b + p + n ≤ s.size ∧ (lo ≤ byt s (b + p + 1) ∧ byt s (b + p + 1) ≤ hi) ∧ ∀ j, 2 ≤ j → j < n → 128 ≤ byt s (b + p + j) ∧ byt s (b + p + j) ≤ 191
    · obtain ⟨y1, y2, y3⟩ := hyes
      have e1 := wd_yes s (b + p) n lo hi hi' hc y1 y2 y3
      rw [e1] at hin ⊢
      refine wd_yes _ p n lo hi (by omega) (by rw [h0]; exact hc) (by omega) (by rw [hB 1 (by omega)]; exact y2) (fun j j1 j2 => ?_)
      rw [hB j (by omega)]
      exact y3 j j1 j2
    · exact absurd (wd_no s (b + p) n lo hi hi' hc hyes) hw

theorem Sound.ext {s : ByteArray} {b e : Nat} (hbe : b ≤ e) (he : e ≤ s.size) (hend : e < s.size → byt s e < 128) : ∀ (f p : Nat), Sound s (b + p) → badF (s.extract b e) f p = none
  | 0, p, h => rfl
  | f + 1, p, h => by
    have hsz : (s.extract b e).size = e - b := by rw [ByteArray.size_extract]; omega
    unfold badF
    by_cases hp : p < (s.extract b e).size
    · rw [if_pos hp]
      have hi : b + p < s.size := by omega
      obtain ⟨hw, hs⟩ := h.step hi
      have hin := wd_in s (b + p) hi
      have hle : b + p + wd s (b + p) ≤ e := by
        rcases Nat.lt_or_ge e (b + p + wd s (b + p)) with hx | hx
        · exfalso
          have h1 := wd_tail s (b + p) hi (e - (b + p)) (by omega) (by omega)
          rw [show b + p + (e - (b + p)) = e by omega] at h1
          have h2 := hend (by omega)
          omega
        · exact hx
      have hwe := wd_ext s b e p he hw hle
      have hbw := bad_wd (s.extract b e) p hp
      rw [if_neg (fun x => hw (by rw [← hwe]; exact hbw.1 x)), wd_dec _ p hp (by rw [hwe]; exact hw), hwe]
      exact Sound.ext hbe he hend f _ (by rw [← Nat.add_assoc]; exact hs)
    · rw [if_neg hp]

end Go.Proofs.YtcphhbofjkenaaaGreatDoor
