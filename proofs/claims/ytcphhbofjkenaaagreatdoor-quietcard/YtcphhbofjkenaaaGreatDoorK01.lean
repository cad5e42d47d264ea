import Derived.Lib.DecodeN
import Derived.Lib.RuneCount
import Derived.Lib.Strings

namespace Go.Proofs.YtcphhbofjkenaaaGreatDoor
open Go

def byt (s : ByteArray) (i : Nat) : Nat := (s.get! i).toNat
theorem byt_lt (s : ByteArray) (i : Nat) : byt s i < 256 := (s.get! i).toNat_lt
theorem byt_eq (s : ByteArray) (i : Nat) (h : i < s.size) : s[i].toNat = byt s i := by
  simp [byt, ByteArray.get!, getElem!_pos, h]; rfl

def wd (s : ByteArray) (i : Nat) : Nat := if byt s i < 128 then 1 else if (Utf8.decode s i).2 = 1 then 0 else (Utf8.decode s i).2

def Cls (b n lo hi : Nat) : Prop :=
  (194 ≤ b ∧ b < 224 ∧ n = 2 ∧ lo = 128 ∧ hi = 191) ∨ (b = 224 ∧ n = 3 ∧ lo = 160 ∧ hi = 191) ∨
  (((225 ≤ b ∧ b < 237) ∨ (238 ≤ b ∧ b < 240)) ∧ n = 3 ∧ lo = 128 ∧ hi = 191) ∨ (b = 237 ∧ n = 3 ∧ lo = 128 ∧ hi = 159) ∨
  (b = 240 ∧ n = 4 ∧ lo = 144 ∧ hi = 191) ∨ (241 ≤ b ∧ b < 244 ∧ n = 4 ∧ lo = 128 ∧ hi = 191) ∨ (b = 244 ∧ n = 4 ∧ lo = 128 ∧ hi = 143)

theorem Cls.n2 {b n lo hi : Nat} (h : Cls b n lo hi) : 2 ≤ n ∧ n ≤ 4 ∧ 128 ≤ b := by unfold Cls at h; omega

theorem decode_cls (s : ByteArray) (i n lo hi : Nat) (hi' : i < s.size) (h : Cls (byt s i) n lo hi) :
    Utf8.decode s i = Lib.slowN (s.size - i) (byt s i) (byt s (i + 1)) (byt s (i + 2)) (byt s (i + 3)) n lo hi := by
  rw [Lib.decode_at]
  have b1 := byt_lt s (i + 1); have b2 := byt_lt s (i + 2); have b3 := byt_lt s (i + 3)
  have hn : 1 ≤ s.size - i := by omega
  show Lib.decodeN (s.size - i) (byt s i) (byt s (i + 1)) (byt s (i + 2)) (byt s (i + 3)) = _
  rcases h with ⟨a, b, rfl, rfl, rfl⟩ | ⟨a, rfl, rfl, rfl⟩ | ⟨a, rfl, rfl, rfl⟩ | ⟨a, rfl, rfl, rfl⟩ | ⟨a, rfl, rfl, rfl⟩ | ⟨a, b, rfl, rfl, rfl⟩ | ⟨a, rfl, rfl, rfl⟩
  · exact (Lib.slow_C2 _ _ _ _ _ hn b1 b2 b3 ⟨a, b⟩).symm
  · exact (Lib.slow_E0 _ _ _ _ _ hn b1 b2 b3 a).symm
  · exact (Lib.slow_E1 _ _ _ _ _ hn b1 b2 b3 a).symm
  · exact (Lib.slow_ED _ _ _ _ _ hn b1 b2 b3 a).symm
  · exact (Lib.slow_F0 _ _ _ _ _ hn b1 b2 b3 a).symm
  · exact (Lib.slow_F1 _ _ _ _ _ hn b1 b2 b3 ⟨a, b⟩).symm
  · exact (Lib.slow_F4 _ _ _ _ _ hn b1 b2 b3 a).symm

theorem wd_yes (s : ByteArray) (i n lo hi : Nat) (hi' : i < s.size) (h : Cls (byt s i) n lo hi)
    (hs : i + n ≤ s.size) (h1 : lo ≤ byt s (i + 1) ∧ byt s (i + 1) ≤ hi) (hr : ∀ j, 2 ≤ j → j < n → 128 ≤ byt s (i + j) ∧ byt s (i + j) ≤ 191) : wd s i = n := by
  have e := decode_cls s i n lo hi hi' h
  have hn := h.n2
  have e2 : (Utf8.decode s i).2 = n := by
    rw [e]; unfold Lib.slowN
    have r2 := hr 2 (by omega); have r3 := hr 3 (by omega)
    repeat' split
    all_goals (simp only; omega)
  unfold wd
  rw [if_neg (by omega), if_neg (by omega), e2]

theorem wd_no (s : ByteArray) (i n lo hi : Nat) (hi' : i < s.size) (h : Cls (byt s i) n lo hi)
    (hno : ¬ (i + n ≤ s.size ∧ (lo ≤ byt s (i + 1) ∧ byt s (i + 1) ≤ hi) ∧ ∀ j, 2 ≤ j → j < n → 128 ≤ byt s (i + j) ∧ byt s (i + j) ≤ 191)) : wd s i = 0 := by
  have e := decode_cls s i n lo hi hi' h
  have hn := h.n2
  have e2 : (Utf8.decode s i).2 = 1 := by
    rw [e]; unfold Lib.slowN
    repeat' split
    all_goals first
      | rfl
      | (exfalso; apply hno; refine ⟨by omega, by omega, fun j h2 h3 => ?_⟩
         have : j = 2 ∨ j = 3 := by omega
         rcases this with rfl | rfl <;> omega)
  unfold wd
  rw [if_neg (by omega), if_pos e2]

theorem wd_bad (s : ByteArray) (i : Nat) (h : (128 ≤ byt s i ∧ byt s i < 194) ∨ 244 < byt s i) : wd s i = 0 := by
  have b0 := byt_lt s i
  have e2 : (Utf8.decode s i).2 = 1 := by
    rw [Lib.decode_at]
    show (Lib.decodeN (s.size - i) (byt s i) _ _ _).2 = 1
    have b1 := byt_lt s (i + 1); have b2 := byt_lt s (i + 2); have b3 := byt_lt s (i + 3)
    unfold byt at b1 b2 b3
    unfold Lib.decodeN
    repeat' split
    all_goals first | rfl | (exfalso; omega)
  unfold wd
  rw [if_neg (by omega), if_pos e2]

theorem wd_one (s : ByteArray) (i : Nat) (h : byt s i < 128) : wd s i = 1 := by unfold wd; rw [if_pos h]

def chars (s : ByteArray) : Nat → Nat → Nat → Int × Int
  | 0, _, n => (n, 0)
  | f + 1, i, n => if i < s.size then (if wd s i = 0 then (-1, (i : Int)) else chars s f (i + wd s i) (n + 1)) else (n, 0)

theorem wd_in (s : ByteArray) (i : Nat) (h : i < s.size) : i + wd s i ≤ s.size := by
  unfold wd
  have : i + (Utf8.decode s i).2 ≤ s.size := by
    rw [Lib.decode_at]; unfold Lib.decodeN
    repeat' split
    all_goals (simp only; omega)
  split <;> (try split) <;> omega

end Go.Proofs.YtcphhbofjkenaaaGreatDoor

namespace Go.Proofs.YtcphhbofjkenaaaGreatDoor
open Go

def blk (b : Nat) : Bool := b == 32 || b == 9 || b == 10
def eol (b : Nat) : Bool := b == 10
def ink (b : Nat) : Bool := !blk b

def scanF (p : Nat → Bool) (s : ByteArray) : Nat → Nat → Nat
  | 0, k => k
  | f + 1, k => if k < s.size then (if p (byt s k) then k else scanF p s f (k + 1)) else k
def scan (p : Nat → Bool) (s : ByteArray) (k : Nat) : Nat := scanF p s (s.size - k) k

theorem scanF_eq (p : Nat → Bool) (s : ByteArray) : ∀ (f k m : Nat), s.size - k ≤ f → k ≤ m → m ≤ s.size → (∀ x, k ≤ x → x < m → p (byt s x) = false) → (m = s.size ∨ p (byt s m) = true) → scanF p s f k = m
  | 0, k, m, hf, h1, h2, _, _ => by unfold scanF; omega
  | f + 1, k, m, hf, h1, h2, h3, h4 => by
    unfold scanF
    by_cases hk : k < s.size
    · rw [if_pos hk]
      by_cases e : k = m
      · subst e
        rcases h4 with h4 | h4
        · omega
        · rw [if_pos h4]
      · rw [if_neg (by rw [h3 k (Nat.le_refl _) (by omega)]; exact Bool.false_ne_true)]
        exact scanF_eq p s f (k + 1) m (by omega) (by omega) h2 (fun x a b => h3 x (by omega) b) h4
    · rw [if_neg hk]; omega

theorem scan_eq {p : Nat → Bool} {s : ByteArray} {k m : Nat} (h1 : k ≤ m) (h2 : m ≤ s.size) (h3 : ∀ x, k ≤ x → x < m → p (byt s x) = false) (h4 : m = s.size ∨ p (byt s m) = true) : scan p s k = m :=
  scanF_eq p s _ k m (Nat.le_refl _) h1 h2 h3 h4

theorem scanF_spec (p : Nat → Bool) (s : ByteArray) : ∀ (f k : Nat), s.size - k ≤ f → k ≤ s.size → k ≤ scanF p s f k ∧ scanF p s f k ≤ s.size ∧ (∀ x, k ≤ x → x < scanF p s f k → p (byt s x) = false) ∧ (scanF p s f k = s.size ∨ p (byt s (scanF p s f k)) = true)
  | 0, k, hf, hk => by unfold scanF; exact ⟨Nat.le_refl _, hk, fun x a b => by omega, Or.inl (by omega)⟩
  | f + 1, k, hf, hk => by
    unfold scanF
    by_cases h : k < s.size
    · rw [if_pos h]
      by_cases hp : p (byt s k) = true
      · rw [if_pos hp]; exact ⟨Nat.le_refl _, hk, fun x a b => by omega, Or.inr hp⟩
      · rw [if_neg hp]
        obtain ⟨a, b, c, d⟩ := scanF_spec p s f (k + 1) (by omega) (by omega)
        refine ⟨by omega, b, fun x x1 x2 => ?_, d⟩
        by_cases e : x = k
        · subst e; simpa using hp
        · exact c x (by omega) x2
    · rw [if_neg h]; exact ⟨Nat.le_refl _, hk, fun x a b => by omega, Or.inl (by omega)⟩

theorem scan_spec (p : Nat → Bool) (s : ByteArray) (k : Nat) (hk : k ≤ s.size) : k ≤ scan p s k ∧ scan p s k ≤ s.size ∧ (∀ x, k ≤ x → x < scan p s k → p (byt s x) = false) ∧ (scan p s k = s.size ∨ p (byt s (scan p s k)) = true) :=
  scanF_spec p s _ k (Nat.le_refl _) hk

abbrev Tk := ByteArray × Nat
def note : ByteArray := ⟨#[92]⟩

def toksF (s : ByteArray) : Nat → Nat → List Tk
  | 0, _ => []
  | f + 1, i =>
    if i < s.size then
      (if blk (byt s i) = true then toksF s f (i + 1)
       else if s.extract i (scan blk s i) = note then toksF s f (scan eol s (scan blk s i))
       else (s.extract i (scan blk s i), i) :: toksF s f (scan blk s i))
    else []

theorem scan_blk_lt (s : ByteArray) (i : Nat) (h : i < s.size) (hb : blk (byt s i) = false) : i < scan blk s i := by
  obtain ⟨a, b, c, d⟩ := scan_spec blk s i (by omega)
  rcases Nat.lt_or_ge i (scan blk s i) with h' | h'
  · exact h'
  · have e : scan blk s i = i := by omega
    rw [e] at d
    rcases d with d | d
    · omega
    · rw [hb] at d; cases d

theorem toksF_fuel (s : ByteArray) : ∀ (f g i : Nat), s.size - i ≤ f → s.size - i ≤ g → toksF s f i = toksF s g i
  | 0, 0, _, _, _ => rfl
  | 0, g + 1, i, hf, _ => by unfold toksF; rw [if_neg (by omega)]
  | f + 1, 0, i, _, hg => by unfold toksF; rw [if_neg (by omega)]
  | f + 1, g + 1, i, hf, hg => by
    unfold toksF
    by_cases h : i < s.size
    · rw [if_pos h, if_pos h]
      by_cases hb : blk (byt s i) = true
      · rw [if_pos hb, if_pos hb]; exact toksF_fuel s f g (i + 1) (by omega) (by omega)
      · rw [if_neg hb, if_neg hb]
        have h1 := scan_blk_lt s i h (by simpa using hb)
        have h2 := (scan_spec blk s i (by omega)).2.1
        have h3 := (scan_spec eol s (scan blk s i) h2).1
        by_cases hn : s.extract i (scan blk s i) = note
        · rw [if_pos hn, if_pos hn]; exact toksF_fuel s f g _ (by omega) (by omega)
        · rw [if_neg hn, if_neg hn, toksF_fuel s f g _ (by omega) (by omega)]
    · rw [if_neg h, if_neg h]

def toksAt (s : ByteArray) (i : Nat) : List Tk := toksF s (s.size - i) i

theorem toksAt_end (s : ByteArray) (i : Nat) (h : s.size ≤ i) : toksAt s i = [] := by
  unfold toksAt; rw [show s.size - i = 0 by omega]; rfl
theorem toksAt_blank (s : ByteArray) (i : Nat) (h : i < s.size) (hb : blk (byt s i) = true) : toksAt s i = toksAt s (i + 1) := by
  unfold toksAt
  rw [toksF_fuel s (s.size - i) (s.size - i + 1) i (by omega) (by omega)]
  rw [toksF, if_pos h, if_pos hb]
  exact toksF_fuel s _ _ _ (by omega) (by omega)
theorem toksAt_note (s : ByteArray) (i : Nat) (h : i < s.size) (hb : blk (byt s i) = false) (hn : s.extract i (scan blk s i) = note) : toksAt s i = toksAt s (scan eol s (scan blk s i)) := by
  unfold toksAt
  have h1 := scan_blk_lt s i h hb
  have h2 := (scan_spec blk s i (by omega)).2.1
  have h3 := (scan_spec eol s (scan blk s i) h2).1
  rw [toksF_fuel s (s.size - i) (s.size - i + 1) i (by omega) (by omega)]
  rw [toksF, if_pos h, if_neg (by rw [hb]; exact Bool.false_ne_true), if_pos hn]
  exact toksF_fuel s _ _ _ (by omega) (by omega)
theorem toksAt_tok (s : ByteArray) (i : Nat) (h : i < s.size) (hb : blk (byt s i) = false) (hn : ¬ s.extract i (scan blk s i) = note) : toksAt s i = (s.extract i (scan blk s i), i) :: toksAt s (scan blk s i) := by
  unfold toksAt
  have h1 := scan_blk_lt s i h hb
  rw [toksF_fuel s (s.size - i) (s.size - i + 1) i (by omega) (by omega)]
  rw [toksF, if_pos h, if_neg (by rw [hb]; exact Bool.false_ne_true), if_neg hn]
  rw [toksF_fuel s _ _ _ (by omega) (Nat.le_refl _)]

end Go.Proofs.YtcphhbofjkenaaaGreatDoor

namespace Go.Proofs.YtcphhbofjkenaaaGreatDoor
open Go

def tab : List (List UInt8 × Int × Int) := [([43], 2, 1), ([45], 2, 1), ([42], 2, 1), ([97, 110, 100], 2, 1), ([111, 114], 2, 1), ([120, 111, 114], 2, 1), ([47], 2, 1), ([109, 111, 100], 2, 1), ([61], 2, 1), ([60], 2, 1), ([62], 2, 1), ([109, 105, 110], 2, 1), ([109, 97, 120], 2, 1), ([110, 105, 112], 2, 1), ([110, 101, 103, 97, 116, 101], 1, 1), ([97, 98, 115], 1, 1), ([48, 61], 1, 1), ([64], 1, 1), ([100, 117, 112], 1, 2), ([100, 114, 111, 112], 1, 0), ([111, 117, 116], 1, 0), ([115, 119, 97, 112], 2, 2), ([111, 118, 101, 114], 2, 3), ([116, 117, 99, 107], 2, 3), ([114, 111, 116], 3, 3), ([33], 2, 0), ([105, 110], 0, 1), ([105], 0, 1)]

def thereL (l : List UInt8) : Int × Int × Bool :=
  match tab.find? (fun r => r.1 == l) with
  | some r => (r.2.1, r.2.2, true)
  | none => (0, 0, false)
def thereS (s : ByteArray) : Int × Int × Bool := thereL s.toList

def sat (n : Int) (b : Nat) : Int := if 2147483648 < n * 10 + b - 48 then 2147483649 else n * 10 + b - 48
def numAt (s : ByteArray) : Nat → Nat → Int → Option Int
  | 0, _, n => some n
  | f + 1, k, n => if k < s.size then (if byt s k < 48 ∨ 57 < byt s k then none else numAt s f (k + 1) (sat n (byt s k))) else some n
def cellOk (n : Int) : Bool := decide (-2147483648 ≤ n) && decide (n ≤ 2147483647)
def numFrom (s : ByteArray) (i : Nat) (neg : Bool) : Int × Bool :=
  if s.size ≤ i then (0, false) else
    match numAt s s.size i 0 with
    | none => (0, false)
    | some n => if neg then (-n, cellOk (-n)) else (n, cellOk n)
def numS (s : ByteArray) : Int × Bool := if 0 < s.size ∧ byt s 0 = 45 then numFrom s 1 true else numFrom s 0 false

def nine : List ByteArray := [⟨#[58]⟩, ⟨#[59]⟩, ⟨#[118, 97, 114, 105, 97, 98, 108, 101]⟩, ⟨#[105, 102]⟩, ⟨#[101, 108, 115, 101]⟩, ⟨#[116, 104, 101, 110]⟩, ⟨#[100, 111]⟩, ⟨#[108, 111, 111, 112]⟩, ⟨#[92]⟩]
def inL (s : ByteArray) (l : List ByteArray) : Bool := l.any fun x => x.toList == s.toList
def nameS (s : ByteArray) : Bool := decide (1 ≤ (chars s s.size 0 0).1) && decide ((chars s s.size 0 0).1 ≤ 16) && !(numS s).2 && !inL s nine

end Go.Proofs.YtcphhbofjkenaaaGreatDoor

namespace Go.Proofs.YtcphhbofjkenaaaGreatDoor
open Go
set_option linter.unusedVariables false

theorem num_bd (s : ByteArray) (h : (numS s).2 = true) : -2147483648 ≤ (numS s).1 ∧ (numS s).1 ≤ 2147483647 := by
  have key : ∀ i b, (numFrom s i b).2 = true → -2147483648 ≤ (numFrom s i b).1 ∧ (numFrom s i b).1 ≤ 2147483647 := by
    intro i b hb
    unfold numFrom at hb ⊢
    by_cases h0 : s.size ≤ i
    · rw [if_pos h0] at hb; cases hb
    · rw [if_neg h0] at hb ⊢
      cases hn : numAt s s.size i 0 with
      | none => rw [hn] at hb; cases hb
      | some n =>
        rw [hn] at hb
        simp only at hb ⊢
        cases b <;> simp [cellOk] at hb ⊢ <;> omega
  unfold numS at h ⊢
  split at h <;> (rename_i hc; first | (rw [if_pos hc]; exact key _ _ h) | (rw [if_neg hc]; exact key _ _ h))

end Go.Proofs.YtcphhbofjkenaaaGreatDoor
