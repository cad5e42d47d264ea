import Derived.BigQuiet
import Derived.Laws.BytesArg
import Derived.Test.YtcphhbofjkenaaaGreatDoorK28
import Derived.Test.YtcphhbofjkenaaaGreatDoorK29
import Derived.Test.YtcphhbofjkenaaaGreatDoorK33

namespace Go.Proofs.YtcphhbofjkenaaaGreatDoor
open Go Go.RowKit
set_option linter.unusedVariables false
set_option linter.unusedSimpArgs false

def I64 (n : Int) : Prop := -9223372036854775808 ≤ n ∧ n ≤ 9223372036854775807

def Gr0 (t : List UInt8) : Prop := ∀ b ∈ t, b ≠ 59 ∧ b ≠ 92 ∧ b < 128
def Grp (t : List UInt8) : Prop := t = [59] ∨ Gr0 t
theorem Gr0.of {t : List UInt8} (h : t.all (fun b => b != 59 && b != 92 && decide (b < 128)) = true) : Gr0 t := by
  intro b hb
  have := List.all_eq_true.mp h b hb
  simpa [and_assoc] using this
theorem Gr0.count {t : List UInt8} (h : Gr0 t) : t.count 59 = 0 := List.count_eq_zero.2 fun hm => (h 59 hm).1 rfl
theorem count_says (s t : ByteArray) : (s ++ t ++ ⟨#[32]⟩ : ByteArray).data.toList.count 59 = s.data.toList.count 59 + t.data.toList.count 59 := by
  simp [ByteArray.data_append, List.count_append]
def TextOk (s : ByteArray) : Prop := ∃ ts : List (List UInt8), (∀ t ∈ ts, Grp t) ∧ s.data.toList = (ts.map (· ++ [32])).flatten
theorem TextOk.nil : TextOk ⟨#[]⟩ := ⟨[], by simp, rfl⟩
theorem TextOk.says {s t : ByteArray} (h : TextOk s) (ht : Grp t.data.toList) : TextOk (s ++ t ++ ⟨#[32]⟩) := by
  obtain ⟨ts, h1, h2⟩ := h
  refine ⟨ts ++ [t.data.toList], fun x hx => ?_, ?_⟩
  · rcases List.mem_append.mp hx with h | h
    · exact h1 x h
    · rw [List.mem_singleton.mp h]; exact ht
  · simp [ByteArray.data_append, h2]

theorem keep_pick (c n : Int) (hc : I64 c) (h1 : 1 ≤ n) (h2 : n ≤ 2147483647) (w : World) :
    Calls Tryz.prog 17 #[.int .i64 c, .int .i64 n] w fun e w' => ∃ r : Int, e = .returned (.int .i64 r) ∧ 0 ≤ r ∧ r < n ∧ w' = w := by
  obtain ⟨c1, c2⟩ := hc
  by_cases hn : c < 0
  · have hm1 : 0 ≤ (-(c + 1)) % n := Int.emod_nonneg _ (by omega)
    have hm2 : (-(c + 1)) % n < n := Int.emod_lt_of_pos _ (by omega)
    have hm3 : (-(c + 1)).tmod n = (-(c + 1)) % n := Int.tmod_eq_emod_of_nonneg (by omega)
    go_enter Tryz.func17, Tryz.ntmps17
    go_wp2_with fail
    go_ret
    exact ⟨_, rfl, hm1, hm2, rfl⟩
  · have hm1 : 0 ≤ c % n := Int.emod_nonneg _ (by omega)
    have hm2 : c % n < n := Int.emod_lt_of_pos _ (by omega)
    have hm3 : c.tmod n = c % n := Int.tmod_eq_emod_of_nonneg (by omega)
    go_enter Tryz.func17, Tryz.ntmps17
    go_wp2_with fail
    go_ret
    exact ⟨_, rfl, hm1, hm2, rfl⟩

set_option maxRecDepth 100000 in
theorem keep_digits (n : Int) (h0 : 0 ≤ n) (h1 : n < 10) (w : World) :
    Calls Tryz.prog 16 #[.int .i64 n] w fun e w' => ∃ s : ByteArray, e = .returned (.string s) ∧ (s.size = 1 ∧ s.data.toList.all (fun b => b != 59 && b != 92 && decide (b < 128)) = true) ∧ Below w.heap.size w w' := by
  have hcv := run_convert_bytes_arg (P := Tryz.prog) (w.alloc (.cells #[.int .u8 (48 + n)] 5)) 93 5 Tryz.underlying93 Tryz.underlying5 w.heap.size 0 1 1 [48 + n] rfl (fun i hi => match i, hi with | 0, _ => (blk_new w #[.int .u8 (48 + n)] 5).cell 0 _ rfl) 9 Tryz.underlying9
  go_enter Tryz.func16, Tryz.ntmps16
  go_wp2_with fail
  go_ret
  exact ⟨_, rfl, ⟨by simp [strOfNums]; rfl, by
    have : n = 0 ∨ n = 1 ∨ n = 2 ∨ n = 3 ∨ n = 4 ∨ n = 5 ∨ n = 6 ∨ n = 7 ∨ n = 8 ∨ n = 9 := by omega
    rcases this with rfl | rfl | rfl | rfl | rfl | rfl | rfl | rfl | rfl | rfl <;> decide⟩, (Below.refl _ _).alloc (Nat.le_refl _) _⟩

def mkC (a : Option Addr) (n c : Nat) (i : Int) (s : ByteArray) (k v : Int) (al : Bool) : Array Value := #[.slice a n c, .int .i64 i, .string s, .int .i64 k, .int .i64 v, .bool al]

theorem keep_says (w : World) (mb : Nat) (a : Option Addr) (n c : Nat) (i : Int) (s : ByteArray) (k v : Int) (al : Bool) (t : ByteArray) (hb : Blk w mb (mkC a n c i s k v al) 34) (hs : s.size ≤ 1000000) (ht : t.size ≤ 1000) :
    Calls Tryz.prog 38 #[.pointer (some ⟨mb, 0, none⟩), .string t] w fun e w' => e = .returned (.tuple #[]) ∧ (∃ s' : ByteArray, (s'.size = s.size + t.size + 1 ∧ s' = s ++ t ++ ⟨#[32]⟩) ∧ Blk w' mb (mkC a n c i s' k v al) 34) ∧ Chg (fun b => b = mb) w w' := by
  have c2 : w.cell? ⟨mb, 2, none⟩ = some (.string s) := hb.cell 2 _ rfl
  have f2 := hb.frozen 2
  go_enter Tryz.func38, Tryz.ntmps38
  go_wp2_with fail
  go_end0
  refine ⟨rfl, ⟨s ++ t ++ ⟨#[32]⟩, ?_, ?_⟩, (Chg.refl (fun b => b = mb) w).setCell (p := ⟨mb, 2, none⟩) rfl _⟩
  · exact ⟨by simp [ByteArray.size_append]; rfl, rfl⟩
  · have := hb.set (o := 2) (.string (s ++ t ++ ⟨#[32]⟩)); simpa [mkC] using this

section
attribute [local go_sem] quietG
set_option maxRecDepth 100000 in
theorem keep_next {B : Nat} (w : World) (mb : Nat) (a : Option Addr) (nn c : Nat) (i : Int) (s : ByteArray) (k v : Int) (al : Bool) (n : Int) (l : List Int) (hb : Blk w mb (mkC a nn c i s k v al) 34) (hr : InsAt B w (.slice a nn c) l) (hl : ∀ x ∈ l, I64 x) (hB : B ≤ mb) (hi : 0 ≤ i) (hil : l.length ≤ 17592186043904) (h1 : 1 ≤ n) (h2 : n ≤ 1000) :
    Calls Tryz.prog 37 #[.pointer (some ⟨mb, 0, none⟩), .int .i64 n] w fun e w' => ∃ r i' : Int, e = .returned (.int .i64 r) ∧ 0 ≤ r ∧ r < n ∧ 0 ≤ i' ∧ Blk w' mb (mkC a nn c i' s k v al) 34 ∧ Chg (fun b => b = mb) w w' := by
  have c0 : w.cell? ⟨mb, 0, none⟩ = some (.slice a nn c) := hb.cell 0 _ rfl
  have c1 : w.cell? ⟨mb, 1, none⟩ = some (.int .i64 i) := hb.cell 1 _ rfl
  have f1 := hb.frozen 1
  have hnn : nn = l.length := by
    rcases hr with ⟨rfl, a', c', e⟩ | ⟨pb, po, c', e, _⟩
    · simp at e; simp [e]
    · simp at e; exact e.2.1
  have hnl : (nn : Int) ≤ 17592186043904 := by omega
  have HB := hidden hb
  by_cases hge : (nn : Int) ≤ i
  · have hd : decide ((nn : Int) ≤ i) = true := by simpa using hge
    clear hb hr hnn
    go_enter Tryz.func37, Tryz.ntmps37
    go_wp2_with fail
    go_quiet (fail)
    go_wp2_with fail
    go_ret
    exact ⟨0, i, rfl, Int.le_refl _, by omega, hi, HB.out, ⟨rfl, rfl, rfl, Nat.le_refl _, fun _ _ _ => rfl⟩⟩
  · have hd : decide ((nn : Int) ≤ i) = false := by simpa using hge
    obtain ⟨j, hj⟩ : ∃ j : Nat, j = i.toNat := ⟨_, rfl⟩
    have hjl : j < l.length := by omega
    obtain ⟨pb, po, rfl, hpb, hx⟩ : ∃ pb po, a = some ⟨pb, po, none⟩ ∧ pb < B ∧ ∀ (j : Nat) (y : Int), l[j]? = some y → w.cell? ⟨pb, po + j, none⟩ = some (.int .i64 y) := by
      rcases hr with ⟨rfl, _⟩ | ⟨pb, po, c', e, _, h3, h4⟩
      · simp at hjl
      · simp at e; exact ⟨pb, po, e.1, h3, h4⟩
    have hxj := hx j l[j] (List.getElem?_eq_getElem hjl)
    have hxi := hl l[j] (List.getElem_mem hjl)
    have hne : pb ≠ mb := by omega
    generalize l[j] = x at hxj hxi
    rw [hj] at hxj
    have HP := hidden (fun w' => keep_pick x n hxi h1 (by omega) w')
    have hin : i < (nn : Int) := by omega
    have hpw : pb < w.heap.size := by have := hb.lt; omega
    have hwr : IntKind.i64.wrap i = i := by have hb64 : IntKind.i64.bits = 64 := rfl; simp [IntKind.wrap, hb64]; omega
    have him : i ≤ 17592186043904 := by omega
    clear hb hr hnn hx hxi hil hl hjl hge hB hpb hj j hnl
    go_enter Tryz.func37, Tryz.ntmps37
    go_wp2_with fail
    go_quiet (fail)
    go_upto_region 4 with fail
    obtain ⟨V, hV⟩ : ∃ V : World, V = (w.drewN nq).setCell ⟨mb, 1, none⟩ (.int .i64 (i + 1)) := ⟨_, rfl⟩
    have hbV : Blk V mb (mkC (some ⟨pb, po, none⟩) nn c (i + 1) s k v al) 34 := by
      rw [hV]
      have := Blk.set (w := w.drewN nq) HB.out (o := 1) (.int .i64 (i + 1)); simpa [mkC] using this
    have hcV : Chg (fun b => b = mb) w V := by
      rw [hV]
      exact (show Chg (fun b => b = mb) w (w.drewN nq) from ⟨rfl, rfl, rfl, Nat.le_refl _, fun _ _ _ => rfl⟩).setCell (p := ⟨mb, 1, none⟩) rfl _
    have d0 : V.cell? ⟨mb, 0, none⟩ = some (.slice (some ⟨pb, po, none⟩) nn c) := hbV.cell 0 _ rfl
    have d1 : V.cell? ⟨mb, 1, none⟩ = some (.int .i64 (i + 1)) := hbV.cell 1 _ rfl
    have dx : V.cell? ⟨pb, po + i.toNat, none⟩ = some (.int .i64 x) := by
      exact (hcV.cell (p := ⟨pb, po + i.toNat, none⟩) hpw hne).trans hxj
    rw [← hV]
    clear hV c0 c1 f1 hxj HB
    have HBV := hidden hbV; have HCV := hidden hcV
    have HC : Hid (V.drew.cell? ⟨mb, 0, none⟩ = some (.slice (some ⟨pb, po, none⟩) nn c) ∧ V.drew.cell? ⟨mb, 1, none⟩ = some (.int .i64 (i + 1)) ∧ V.drew.cell? ⟨pb, po + i.toNat, none⟩ = some (.int .i64 x)) := hidden ⟨d0, d1, dx⟩
    have k0 : ∀ u : {w' : World // w'.cell? ⟨mb, 0, none⟩ = some (.slice (some ⟨pb, po, none⟩) nn c) ∧ w'.cell? ⟨mb, 1, none⟩ = some (.int .i64 (i + 1)) ∧ w'.cell? ⟨pb, po + i.toNat, none⟩ = some (.int .i64 x)}, u.val.cell? ⟨mb, 0, none⟩ = some (.slice (some ⟨pb, po, none⟩) nn c) := fun u => u.property.1
    have k1 : ∀ u : {w' : World // w'.cell? ⟨mb, 0, none⟩ = some (.slice (some ⟨pb, po, none⟩) nn c) ∧ w'.cell? ⟨mb, 1, none⟩ = some (.int .i64 (i + 1)) ∧ w'.cell? ⟨pb, po + i.toNat, none⟩ = some (.int .i64 x)}, u.val.cell? ⟨mb, 1, none⟩ = some (.int .i64 (i + 1)) := fun u => u.property.2.1
    have k2 : ∀ u : {w' : World // w'.cell? ⟨mb, 0, none⟩ = some (.slice (some ⟨pb, po, none⟩) nn c) ∧ w'.cell? ⟨mb, 1, none⟩ = some (.int .i64 (i + 1)) ∧ w'.cell? ⟨pb, po + i.toNat, none⟩ = some (.int .i64 x)}, u.val.cell? ⟨pb, po + i.toNat, none⟩ = some (.int .i64 x) := fun u => u.property.2.2
    have hne : Nonempty {w' : World // w'.cell? ⟨mb, 0, none⟩ = some (.slice (some ⟨pb, po, none⟩) nn c) ∧ w'.cell? ⟨mb, 1, none⟩ = some (.int .i64 (i + 1)) ∧ w'.cell? ⟨pb, po + i.toNat, none⟩ = some (.int .i64 x)} := ⟨⟨V, d0, d1, dx⟩⟩
    clear hbV hcV d0 d1 dx
    refine wp_region_turns (C := OneOf fun w' => w'.cell? ⟨mb, 0, none⟩ = some (.slice (some ⟨pb, po, none⟩) nn c) ∧ w'.cell? ⟨mb, 1, none⟩ = some (.int .i64 (i + 1)) ∧ w'.cell? ⟨pb, po + i.toNat, none⟩ = some (.int .i64 x)) 13 [12] ⟨V.drew, HC.out⟩ (by kernel_rfl) (by kernel_rfl) rfl ?_
    rw [show List.range 13 = [0, 1, 2, 3, 4, 5, 6, 7, 8, 9, 10, 11, 12] from rfl]
    repeat (refine wpT_step rfl rfl (fun K hK => ?_); go_simp; refine hK _ ?_; clear hK K)
    refine wpT_call1 rfl rfl 17 #[.int .i64 x, .int .i64 n] (by go_simp) ((HP.out _).mono ?_)
    rintro e w2 ⟨r, rfl, r1, r2, rfl⟩
    refine ⟨_, rfl, HC.out, wpT_end ?_⟩
    intro w' hw'
    rw [show w' = V.drew from hw']
    clear hw' w' k0 k1 k2 hne
    simp only [List.drop_succ_cons, List.drop_zero]
    go_wp2_with fail
    go_ret
    exact ⟨r, i + 1, rfl, r1, r2, by omega, HBV.out, HCV.out.drew⟩
end

end Go.Proofs.YtcphhbofjkenaaaGreatDoor

namespace Go.Proofs.YtcphhbofjkenaaaGreatDoor
open Go Go.RowKit
set_option linter.unusedVariables false
set_option linter.unusedSimpArgs false

def evens : List ByteArray := [⟨#[110, 101, 103, 97, 116, 101]⟩, ⟨#[97, 98, 115]⟩, ⟨#[48, 61]⟩, ⟨#[100, 117, 112, 32, 43]⟩, ⟨#[100, 117, 112, 32, 42]⟩, ⟨#[49, 32, 43]⟩, ⟨#[51, 32, 45]⟩, ⟨#[55, 32, 109, 111, 100]⟩, ⟨#[50, 32, 47]⟩, ⟨#[100, 117, 112, 32, 111, 117, 116]⟩, ⟨#[53, 32, 115, 119, 97, 112, 32, 45]⟩, ⟨#[49, 32, 111, 118, 101, 114, 32, 43, 32, 110, 105, 112]⟩, ⟨#[100, 117, 112, 32, 100, 117, 112, 32, 114, 111, 116, 32, 100, 114, 111, 112, 32, 109, 97, 120]⟩, ⟨#[51, 32, 116, 117, 99, 107, 32, 42, 32, 109, 105, 110]⟩, ⟨#[45, 49, 32, 120, 111, 114]⟩, ⟨#[54, 32, 111, 114, 32, 53, 32, 97, 110, 100]⟩, ⟨#[100, 117, 112, 32, 50, 32, 60, 32, 45]⟩]
def others : List ByteArray := [⟨#[105, 110, 32, 43]⟩, ⟨#[100, 117, 112, 32, 51, 32, 33]⟩, ⟨#[49, 32, 64, 32, 43]⟩, ⟨#[100, 117, 112, 32, 48, 32, 33]⟩, ⟨#[48, 32, 64, 32, 109, 97, 120]⟩, ⟨#[100, 117, 112, 32, 57, 32, 109, 111, 100, 32, 64, 32, 43]⟩]
theorem evens_small : ∀ (k : Nat), k < 17 → ∃ t, (evens.map Value.string)[k]? = some (.string t) ∧ t.size ≤ 20 ∧ Gr0 t.data.toList := by
  intro k hk
  have h : ∀ k, k < 17 → (((evens[k]?).map ByteArray.size).getD 99 ≤ 20 ∧ ((evens[k]?).map fun t => t.data.toList.all (fun b => b != 59 && b != 92 && decide (b < 128))).getD false = true) := by decide +kernel
  have := h k hk
  have hl : evens.length = 17 := rfl
  rw [List.getElem?_eq_getElem (by omega)] at this
  exact ⟨evens[k], by rw [List.getElem?_map, List.getElem?_eq_getElem (by omega)]; rfl, this.1, Gr0.of this.2⟩
theorem others_small : ∀ (k : Nat), k < 6 → ∃ t, (others.map Value.string)[k]? = some (.string t) ∧ t.size ≤ 20 ∧ Gr0 t.data.toList := by
  intro k hk
  have h : ∀ k, k < 6 → (((others[k]?).map ByteArray.size).getD 99 ≤ 20 ∧ ((others[k]?).map fun t => t.data.toList.all (fun b => b != 59 && b != 92 && decide (b < 128))).getD false = true) := by decide +kernel
  have := h k hk
  have hl : others.length = 6 := rfl
  rw [List.getElem?_eq_getElem (by omega)] at this
  exact ⟨others[k], by rw [List.getElem?_map, List.getElem?_eq_getElem (by omega)]; rfl, this.1, Gr0.of this.2⟩

def MK (B mb : Nat) (a : Option Addr) (nn c : Nat) (l : List Int) (k v : Int) (al : Bool) (q : Nat) (L : Nat) (w0 w : World) : Prop :=
  ∃ (i : Int) (s : ByteArray), 0 ≤ i ∧ (s.size ≤ L ∧ TextOk s ∧ s.data.toList.count 59 ≤ q) ∧ Blk w mb (mkC a nn c i s k v al) 34 ∧ InsAt B w (.slice a nn c) l ∧ (∀ x ∈ l, I64 x) ∧ B ≤ mb ∧ l.length ≤ 17592186043904 ∧ (0 ≤ k ∧ k ≤ 4) ∧ Chg (fun b => b = mb) w0 w

section
variable {B mb : Nat} {a : Option Addr} {nn c : Nat} {l : List Int} {k v : Int} {al : Bool} {q : Nat} {L : Nat} {w0 w : World}

theorem InsAt.chg {S : Nat → Prop} {w' : World} {iv : Value} (h : InsAt B w iv l) (hc : Chg S w w') (hB : B ≤ w.heap.size) (hs : ∀ b, b < B → ¬ S b) : InsAt B w' iv l := h.below (hc.toBelow hB hs)
theorem MK.lt (h : MK B mb a nn c l k v al q L w0 w) : mb < w.heap.size := by
  obtain ⟨i, s, h1, h2, h3, _⟩ := h
  exact h3.lt
theorem MK.more (h : MK B mb a nn c l k v al q L w0 w) {L' : Nat} (hL : L ≤ L') : MK B mb a nn c l k v al q L' w0 w := by
  obtain ⟨i, s, h1, h2, r⟩ := h
  exact ⟨i, s, h1, ⟨by omega, h2.2⟩, r⟩
theorem MK.chg {w' : World} (h : MK B mb a nn c l k v al q L w0 w) {i' : Int} {s' : ByteArray} {L' q' : Nat} (hi : 0 ≤ i') (hs : s'.size ≤ L' ∧ TextOk s' ∧ s'.data.toList.count 59 ≤ q') (hb : Blk w' mb (mkC a nn c i' s' k v al) 34) (hc : Chg (fun b => b = mb) w w') : MK B mb a nn c l k v al q' L' w0 w' := by
  obtain ⟨i, s, h1, h2, h3, h4, h5, h6, h7, h8, h9⟩ := h
  exact ⟨i', s', hi, hs, hb, h4.chg hc (Nat.le_of_lt (Nat.lt_of_le_of_lt h6 h3.lt)) (fun b hb e => by omega), h5, h6, h7, h8, h9.trans hc⟩
theorem MK.below {w' : World} (h : MK B mb a nn c l k v al q L w0 w) (hb : Below w.heap.size w w') : MK B mb a nn c l k v al q L w0 w' := by
  have h' := h
  obtain ⟨i, s, h1, h2, h3, _⟩ := h
  exact h'.chg h1 h2 (h3.sub hb h3.lt) (Chg.ofBelow hb)

theorem mk_next (h : MK B mb a nn c l k v al q L w0 w) (n : Int) (h1 : 1 ≤ n) (h2 : n ≤ 1000) :
    Calls Tryz.prog 37 #[.pointer (some ⟨mb, 0, none⟩), .int .i64 n] w fun e w' => ∃ r : Int, e = .returned (.int .i64 r) ∧ 0 ≤ r ∧ r < n ∧ MK B mb a nn c l k v al q L w0 w' ∧ Chg (fun b => b = mb) w w' := by
  have h' := h
  obtain ⟨i, s, i0, s1, hb, hr, hl, hB, hil, _⟩ := h
  refine (keep_next w mb a nn c i s k v al n l hb hr hl hB i0 hil h1 h2).mono ?_
  rintro e w' ⟨r, i', rfl, r1, r2, r3, r4, r5⟩
  exact ⟨r, rfl, r1, r2, h'.chg r3 s1 r4 r5, r5⟩
theorem mk_says (h : MK B mb a nn c l k v al q L w0 w) (t : ByteArray) (hL : L ≤ 900000) (ht : t.size ≤ 100) (hn : Gr0 t.data.toList) {L' : Nat} (hL' : L + t.size + 1 ≤ L') :
    Calls Tryz.prog 38 #[.pointer (some ⟨mb, 0, none⟩), .string t] w fun e w' => e = .returned (.tuple #[]) ∧ MK B mb a nn c l k v al q L' w0 w' := by
  have h' := h
  obtain ⟨i, s, i0, s1, hb, _⟩ := h
  refine (keep_says w mb a nn c i s k v al t hb (by omega) (by omega)).mono ?_
  rintro e w' ⟨rfl, ⟨s', ⟨r1, rs⟩, r2⟩, r3⟩
  exact ⟨rfl, h'.chg i0 ⟨by omega, by rw [rs]; exact s1.2.1.says (.inr hn), by rw [rs, count_says, hn.count]; exact s1.2.2⟩ r2 r3⟩
theorem mk_semi (h : MK B mb a nn c l k v al q L w0 w) (hL : L ≤ 900000) :
    Calls Tryz.prog 38 #[.pointer (some ⟨mb, 0, none⟩), .string ⟨#[59]⟩] w fun e w' => e = .returned (.tuple #[]) ∧ MK B mb a nn c l k v al (q + 1) (L + 2) w0 w' := by
  have h' := h
  obtain ⟨i, s, i0, s1, hb, _⟩ := h
  refine (keep_says w mb a nn c i s k v al ⟨#[59]⟩ hb (by omega) (by decide)).mono ?_
  rintro e w' ⟨rfl, ⟨s', ⟨r1, rs⟩, r2⟩, r3⟩
  have h1 : (⟨#[59]⟩ : ByteArray).size = 1 := rfl
  have h2 : (⟨#[59]⟩ : ByteArray).data.toList.count 59 = 1 := rfl
  exact ⟨rfl, h'.chg i0 ⟨by omega, by rw [rs]; exact s1.2.1.says (.inl rfl), by rw [rs, count_says, h2]; have := s1.2.2; omega⟩ r2 r3⟩
theorem mk_digits (h : MK B mb a nn c l k v al q L w0 w) (n : Int) (h0 : 0 ≤ n) (h1 : n < 10) :
    Calls Tryz.prog 16 #[.int .i64 n] w fun e w' => ∃ s : ByteArray, e = .returned (.string s) ∧ (s.size = 1 ∧ s.data.toList.all (fun b => b != 59 && b != 92 && decide (b < 128)) = true) ∧ MK B mb a nn c l k v al q L w0 w' := by
  refine (keep_digits n h0 h1 w).mono ?_
  rintro e w' ⟨s, rfl, r1, r2⟩
  exact ⟨s, rfl, r1, h.below r2⟩

set_option maxRecDepth 100000 in
theorem mk_even (h : MK B mb a nn c l k v al q L w0 w) :
    Calls Tryz.prog 71 #[.pointer (some ⟨mb, 0, none⟩)] w fun e w' => ∃ t : ByteArray, e = .returned (.string t) ∧ (t.size ≤ 20 ∧ Gr0 t.data.toList) ∧ MK B mb a nn c l k v al q L w0 w' := by
  obtain ⟨X, hX⟩ : ∃ X : World, X = w.alloc (.cells #[.string ⟨#[110, 101, 103, 97, 116, 101]⟩, .string ⟨#[97, 98, 115]⟩, .string ⟨#[48, 61]⟩, .string ⟨#[100, 117, 112, 32, 43]⟩, .string ⟨#[100, 117, 112, 32, 42]⟩, .string ⟨#[49, 32, 43]⟩, .string ⟨#[51, 32, 45]⟩, .string ⟨#[55, 32, 109, 111, 100]⟩, .string ⟨#[50, 32, 47]⟩, .string ⟨#[100, 117, 112, 32, 111, 117, 116]⟩, .string ⟨#[53, 32, 115, 119, 97, 112, 32, 45]⟩, .string ⟨#[49, 32, 111, 118, 101, 114, 32, 43, 32, 110, 105, 112]⟩, .string ⟨#[100, 117, 112, 32, 100, 117, 112, 32, 114, 111, 116, 32, 100, 114, 111, 112, 32, 109, 97, 120]⟩, .string ⟨#[51, 32, 116, 117, 99, 107, 32, 42, 32, 109, 105, 110]⟩, .string ⟨#[45, 49, 32, 120, 111, 114]⟩, .string ⟨#[54, 32, 111, 114, 32, 53, 32, 97, 110, 100]⟩, .string ⟨#[100, 117, 112, 32, 50, 32, 60, 32, 45]⟩] 9 (0, 0)) := ⟨_, rfl⟩
  obtain ⟨g, hg⟩ : ∃ g, g = w.heap.size := ⟨_, rfl⟩
  have hbX : Below w.heap.size w X := by rw [hX]; exact (Below.refl _ _).alloc (Nat.le_refl _) _
  have hrX : ∀ (j : Nat) (u : Value), (evens.map Value.string)[j]? = some u → X.cell? ⟨g, j, none⟩ = some u := fun j u hu => by
    rw [hX, hg]
    exact (blk_new w _ _).cell j u (by rw [← Array.getElem?_toList]; exact hu)
  have hgX : g < X.heap.size := by rw [hX, hg]; simp
  have hgm : g ≠ mb := by have := h.lt; omega
  have HN := hidden (mk_next (h.below hbX) 17 (by omega) (by omega))
  have HX := hidden hX; have HR := hidden hrX; have HG := hidden hg
  clear h hX hrX hbX hg
  go_enter Tryz.func71, Tryz.ntmps71
  go_upto_region 1 with fail
  go_wp2_with fail
  rw [← HX.out, ← HG.out]
  refine HN.out.mono ?_
  rintro e w1 ⟨r, rfl, r1, r2, hM, hc⟩
  obtain ⟨t, ht, htl⟩ := evens_small r.toNat (by omega)
  have hx : w1.cell? ⟨g, r.toNat, none⟩ = some (.string t) := (hc.cell (p := ⟨g, r.toNat, none⟩) hgX hgm).trans (HR.out _ _ ht)
  have HM := hidden hM
  clear hM hc ht HN HX HR HG
  go_wp2_with fail
  go_ret
  exact ⟨t, rfl, htl, HM.out⟩
end

end Go.Proofs.YtcphhbofjkenaaaGreatDoor

namespace Go.Proofs.YtcphhbofjkenaaaGreatDoor
open Go Go.RowKit
set_option linter.unusedVariables false
set_option linter.unusedSimpArgs false

def sumT : ByteArray := ⟨#[58, 32, 115, 117, 109, 32, 48, 32, 53, 32, 49, 32, 100, 111, 32, 105, 32, 43, 32, 108, 111, 111, 112, 32, 111, 117, 116, 32, 59]⟩
def sumN : ByteArray := ⟨#[115, 117, 109]⟩

set_option maxRecDepth 100000 in
theorem sum_load : (loadR sumT [] 0 0 []).1 = (0, 0) := by decide +kernel
set_option maxRecDepth 100000 in
theorem sum_nv : (loadR sumT [] 0 0 []).2.2.1 = 0 := by decide +kernel
set_option maxRecDepth 100000 in
theorem sum_find : findRes (lastP (loadR sumT [] 0 0 []).2.1 sumN (loadR sumT [] 0 0 []).2.1.length) = .tuple #[.agg #[.int .i64 0, .int .i64 0, .int .i64 3, .int .i64 18, .bool true], .int .i64 0] := by kernel_rfl
set_option maxRecDepth 100000 in
theorem sum_start : startOf (lastP (loadR sumT [] 0 0 []).2.1 sumN (loadR sumT [] 0 0 []).2.1.length) = some 0 := by decide +kernel
set_option maxRecDepth 100000 in
theorem sum_run : (runM (loadR sumT [] 0 0 []).2.2.2.2 100 0 ⟨[], [], [], 0⟩ ⟨[], [], []⟩).1 = 18 ∧ (runM (loadR sumT [] 0 0 []).2.2.2.2 100 0 ⟨[], [], [], 0⟩ ⟨[], [], []⟩).2.1 = 0 ∧ (runM (loadR sumT [] 0 0 []).2.2.2.2 100 0 ⟨[], [], [], 0⟩ ⟨[], [], []⟩).2.2.2.outs = [10] := by decide +kernel

theorem alk_nil : Alk [] [] [] := ⟨⟨rfl, fun k x y h => by simp at h⟩, Coded.nil⟩
theorem wsOk_nil : WsOk [] := fun x hx => by simp at hx

structure KSys (w : World) (bb : Nat) (R : List PE × Int × Int × List Int) (ws : List RW) : Prop where
  sys : ∃ ev cv, PSys w bb ev cv R.1 R.2.1 R.2.2.1 R.2.2.2
  inv : LInv R.1 R.2.1 R.2.2.1 R.2.2.2
  alk : Alk R.1 R.2.2.2 ws
  wsb : WsB ws
  tab : Tab w
theorem KSys.below {w w' : World} {bb : Nat} {R : List PE × Int × Int × List Int} {ws : List RW} (h : KSys w bb R ws) (hb : Below w.heap.size w w') : KSys w' bb R ws :=
  ⟨h.sys.imp fun ev h => h.imp fun cv h => h.below hb, h.inv, h.alk, h.wsb, h.tab.below hb⟩

theorem load_new {w w1 w2 : World} {bb : Nat} {s : ByteArray} {e : Ending} (h0 : w.heap.size ≤ bb) (hb : Below w.heap.size w w1) (hp : LoadPost w1 bb (.slice none 0 0) (.slice none 0 0) (loadR s [] 0 0 []) e w2) :
    e = .returned (.tuple #[.int .i64 (loadR s [] 0 0 []).1.1, .int .i64 (loadR s [] 0 0 []).1.2]) ∧ (∃ ws, KSys w2 bb (loadR s [] 0 0 []).2 ws) ∧ Below w.heap.size w w2 := by
  obtain ⟨h1, ⟨ev, cv, h2, h3, _⟩, h5, h6⟩ := hp
  obtain ⟨ws, a1, a2, _⟩ := load_ws s alk_nil LInv.zero wsOk_nil WsB.nil
  refine ⟨h1, ⟨ws, ⟨ev, cv, h2⟩, h5, a1, a2, h3⟩, hb.trans (h6.toBelow hb.size fun b hbb e => ?_)⟩
  rcases e with e | e | e
  · omega
  · simp [Value.ownBlock] at e
  · simp [Value.ownBlock] at e

theorem keep_run {w : World} {bb : Nat} {R : List PE × Int × Int × List Int} {ws : List RW} {sv iv : Value} {st ins : List Int} (h : KSys w bb R ws) (x : ByteArray) (f : Int) (hs : InsAt w.heap.size w sv st) (hj : InsAt w.heap.size w iv ins) (h0 : (findI ws x).2 = 0) (hm : mayR st ins f = true) (hl2 : ins.length ≤ 17592186043904) :
    Calls Tryz.prog 21 #[.pointer (some ⟨bb, 0, none⟩), .string x, sv, iv, .int .i64 f] w fun e w' => ∃ (xa oa va : Option Addr) (xn xc on oc vn vc : Nat), e = .returned (.tuple #[.agg #[.slice xa xn xc, .slice oa on oc, .slice va vn vc, .int .i64 (runD ws R.2.1.toNat x st ins f.toNat).1, .int .i64 (runD ws R.2.1.toNat x st ins f.toNat).2.1], .int .i64 0]) ∧
      OutK w.heap.size w' (.slice xa xn xc) (.slice oa on oc) (.slice va vn vc) (runD ws R.2.1.toNat x st ins f.toNat).2.2.1.reverse (runD ws R.2.1.toNat x st ins f.toNat).2.2.2.outs (runD ws R.2.1.toNat x st ins f.toNat).2.2.2.vars ∧ xn = (runD ws R.2.1.toNat x st ins f.toNat).2.2.1.length ∧ Below w.heap.size w w' := by
  obtain ⟨ev, cv, hsys⟩ := h.sys
  have hm' := hm
  simp only [mayR, Bool.and_eq_true, decide_eq_true_eq] at hm'
  refine (forth_runD x f hsys h.inv h.tab h.alk hs hj (Nat.le_refl _) (by omega) hl2).mono ?_
  rintro e w' ⟨hp, hb⟩
  have hc : runC ws x st ins f = 0 := by unfold runC; rw [if_neg (by omega), if_pos hm]
  rcases hp with ⟨hne, _⟩ | ⟨_, xv, ov, vv, rfl, hro⟩
  · exact absurd hc hne
  · obtain ⟨xa, xc, rfl, _, _⟩ := row_shape hro.s
    obtain ⟨oa, on, oc, rfl⟩ := irow_shape hro.o
    obtain ⟨va, vn, vc, rfl⟩ := irow_shape hro.v
    exact ⟨xa, oa, va, _, xc, on, oc, vn, vc, rfl, ⟨hro.s, hro.o, hro.v⟩, by simp, hb⟩

section
attribute [local go_sem] quietG
set_option maxRecDepth 100000 in
set_option maxHeartbeats 4000000 in
theorem keep_works (w : World) (ht : Tab w) : Calls Tryz.prog 40 #[] w fun e w' => e = .returned (.bool true) ∧ Below w.heap.size w w' := by
  have HT := hidden ht
  have HN := hidden (forth_new w ht)
  clear ht
  go_enter Tryz.func40, Tryz.ntmps40
  go_wp2_with fail
  refine HN.out.mono ?_
  rintro e w1 ⟨bb, hbb, rfl, hp, hb1⟩
  have HL := hidden (forth_load sumT hp (HT.out.below hb1) (by decide) LInv.zero)
  have HB1 := hidden hb1
  clear hp hb1 HN
  go_wp2_with fail
  refine (show Calls _ _ #[.pointer (some ⟨bb, 0, none⟩), .string ⟨#[58, 32, 115, 117, 109, 32, 48, 32, 53, 32, 49, 32, 100, 111, 32, 105, 32, 43, 32, 108, 111, 111, 112, 32, 111, 117, 116, 32, 59]⟩] _ _ from HL.out).mono ?_
  intro e w2 hpost
  obtain ⟨h1, ⟨ws, hK⟩, hb2⟩ := load_new hbb HB1.out hpost
  rw [sum_load] at h1
  simp only at h1
  subst h1
  have HK := hidden hK; have HB2 := hidden hb2
  obtain ⟨ev, cv, hsys⟩ := hK.sys
  have HF := hidden (forth_find sumN hsys (by have := hK.inv.l; omega))
  clear hpost hK hb2 HL HB1 hsys
  go_wp2_with fail
  refine (show Calls _ _ #[.pointer (some ⟨bb, 0, none⟩), .string ⟨#[115, 117, 109]⟩] _ _ from HF.out).mono ?_
  rintro e w3 ⟨rfl, hb3⟩
  rw [sum_find]
  obtain ⟨fb, hfb⟩ : ∃ fb, fb = w3.heap.size := ⟨_, rfl⟩
  obtain ⟨Y, hY⟩ : ∃ Y : World, Y = w3.alloc (.cells #[.int .i64 0, .int .i64 0, .int .i64 3, .int .i64 18, .bool true] 36 (0, 0)) := ⟨_, rfl⟩
  have hbY : Below w3.heap.size w3 Y := by rw [hY]; exact (Below.refl _ _).alloc (Nat.le_refl _) _
  have hkY : Blk Y fb #[.int .i64 0, .int .i64 0, .int .i64 3, .int .i64 18, .bool true] 36 := by rw [hY, hfb]; exact blk_new w3 _ _
  have HY := hidden hY; have HFB := hidden hfb; have HKY := hidden hkY
  have hb4 : Below w2.heap.size w2 Y := hb3.trans (hbY.mono hb3.size)
  have HKS := hidden (HK.out.below hb4)
  have HB4 := hidden (HB2.out.trans (hb4.mono HB2.out.size))
  clear hfb hY hbY hkY hb3 hb4 HF HK HB2
  go_upto_region 6 with fail
  rw [← HY.out, ← HFB.out]
  have q0 : Y.cell? ⟨fb, 0, none⟩ = some (.int .i64 0) := HKY.out.cell 0 _ rfl
  have q1 : Y.cell? ⟨fb, 1, none⟩ = some (.int .i64 0) := HKY.out.cell 1 _ rfl
  have q2 : Y.cell? ⟨fb, 2, none⟩ = some (.int .i64 3) := HKY.out.cell 2 _ rfl
  have q3 : Y.cell? ⟨fb, 3, none⟩ = some (.int .i64 18) := HKY.out.cell 3 _ rfl
  have q4 : Y.cell? ⟨fb, 4, none⟩ = some (.bool true) := HKY.out.cell 4 _ rfl
  have hfl := HKY.out.lt
  have hN : (findI ws sumN).2 = 0 := by
    have := find_eq HKS.out.alk.toAlike sumN
    rw [sum_find] at this
    simp at this
    exact this.2.symm
  have hm : mayR [] [] 100 = true := by decide
  have HRN := hidden (keep_run (sv := .slice none 0 0) (iv := .slice none 0 0) HKS.out sumN 100 (Or.inl ⟨rfl, none, 0, rfl⟩) (Or.inl ⟨rfl, none, 0, rfl⟩) hN hm (by simp))
  obtain ⟨p, e4, m1, m2, m3, m4, m5, m6⟩ := runD_runM HKS.out.alk hN hm (loadR sumT [] 0 0 []).2.2.1.toNat
  rw [sum_start] at e4
  obtain rfl : p = 0 := by simpa using e4.symm
  rw [sum_nv] at m1 m2 m3
  obtain ⟨s1, s2, s3⟩ := sum_run
  have d1 : (runD ws (loadR sumT [] 0 0 []).2.2.1.toNat sumN [] [] (100 : Int).toNat).1 = 18 := by rw [sum_nv, ← m1]; exact s1
  have d2 : (runD ws (loadR sumT [] 0 0 []).2.2.1.toNat sumN [] [] (100 : Int).toNat).2.1 = 0 := by rw [sum_nv, ← m2]; exact s2
  have d3 : (runD ws (loadR sumT [] 0 0 []).2.2.1.toNat sumN [] [] (100 : Int).toNat).2.2.2.outs = [10] := by rw [sum_nv, ← m3]; exact s3
  rw [d1, d2, d3, show ((18 : Nat) : Int) = 18 from rfl] at HRN
  clear e4 m1 m2 m3 m4 m5 m6 s1 s2 s3 d1 d2 d3 hN hm
  go_wp2_with fail
  refine (show Calls _ _ #[.pointer (some ⟨bb, 0, none⟩), .string ⟨#[115, 117, 109]⟩, .slice none 0 0, .slice none 0 0, .int .i64 100] _ _ from HRN.out).mono ?_
  rintro e w4 ⟨xa, oa, va, xn, xc, on, oc, vn, vc, rfl, ho, hxn, hb4⟩
  clear hxn
  obtain ⟨g, cap, hv, _, hg, _, _, hcc⟩ := row_cells ho.o (by decide)
  obtain ⟨rfl, rfl, rfl⟩ : oa = some ⟨g, 0, none⟩ ∧ on = 1 ∧ oc = cap := by simpa using hv
  have cg : w4.cell? ⟨g, 0, none⟩ = some (.int .i64 10) := hcc 0 _ rfl
  obtain ⟨ob, hob⟩ : ∃ ob, ob = w4.heap.size := ⟨_, rfl⟩
  obtain ⟨Z, hZ⟩ : ∃ Z : World, Z = w4.alloc (.cells #[.slice xa xn xc, .slice (some ⟨g, 0, none⟩) 1 oc, .slice va vn vc, .int .i64 18, .int .i64 0] 43 (0, 0)) := ⟨_, rfl⟩
  have hbZ : Below w4.heap.size w4 Z := by rw [hZ]; exact (Below.refl _ _).alloc (Nat.le_refl _) _
  have hkZ : Blk Z ob #[.slice xa xn xc, .slice (some ⟨g, 0, none⟩) 1 oc, .slice va vn vc, .int .i64 18, .int .i64 0] 43 := by rw [hZ, hob]; exact blk_new w4 _ _
  have z1 : Z.cell? ⟨ob, 1, none⟩ = some (.slice (some ⟨g, 0, none⟩) 1 oc) := hkZ.cell 1 _ rfl
  have z3 : Z.cell? ⟨ob, 3, none⟩ = some (.int .i64 18) := hkZ.cell 3 _ rfl
  have z4 : Z.cell? ⟨ob, 4, none⟩ = some (.int .i64 0) := hkZ.cell 4 _ rfl
  have zg : Z.cell? ⟨g, 0, none⟩ = some (.int .i64 10) := (hbZ.cell (p := ⟨g, 0, none⟩) hg).trans cg
  have hgZ : g < Z.heap.size := Nat.lt_of_lt_of_le hg hbZ.size
  have hoZ := hkZ.lt
  have HZ := hidden hZ; have HOB := hidden hob
  have HFIN := hidden (HB4.out.trans ((hb4.trans (hbZ.mono hb4.size)).mono HB4.out.size))
  clear ho hb4 hv hcc cg hob hZ hbZ hkZ q0 q1 q2 q3 q4 HRN HKS HKY hg
  go_upto_region 9 with fail
  rw [← HZ.out, ← HOB.out]
  go_wp2_with fail
  go_ret
  exact ⟨rfl, HFIN.out⟩

end

end Go.Proofs.YtcphhbofjkenaaaGreatDoor

namespace Go.Proofs.YtcphhbofjkenaaaGreatDoor
open Go Go.RowKit
set_option linter.unusedVariables false
set_option linter.unusedSimpArgs false

theorem byt_list (s : ByteArray) {i : Nat} (hi : i < s.size) : ∃ x : UInt8, s.data.toList[i]? = some x ∧ byt s i = x.toNat := by
  refine ⟨s[i], ?_, (byt_eq s i hi).symm⟩
  rw [Array.getElem?_toList]
  exact Array.getElem?_eq_getElem hi

theorem texts_semi : ∀ (ts : List (List UInt8)), (∀ t ∈ ts, Grp t) → ∀ i, (List.flatten (ts.map fun x => x ++ [(32 : UInt8)]))[i]? = some (59 : UInt8) → i = 0 ∨ (List.flatten (ts.map fun x => x ++ [(32 : UInt8)]))[i - 1]? = some (32 : UInt8)
  | [], _, i, h => by simp at h
  | t :: ts, hg, i, h => by
    rw [List.map_cons, List.flatten_cons] at h ⊢
    by_cases h1 : i < t.length
    · rw [List.getElem?_append_left (by simp; omega), List.getElem?_append_left h1] at h
      rcases hg t (List.mem_cons_self ..) with e | e
      · subst e; left; simp at h1; exact h1
      · exact absurd rfl (e 59 (List.mem_of_getElem? h)).1
    · by_cases h2 : i = t.length
      · rw [h2, List.getElem?_append_left (by simp), List.getElem?_append_right (Nat.le_refl _)] at h
        simp at h
      · rw [List.getElem?_append_right (by simp; omega)] at h
        rcases texts_semi ts (fun x hx => hg x (List.mem_cons_of_mem _ hx)) _ h with e | e
        · right
          have : i = t.length + 1 := by simp at e; omega
          rw [this, List.getElem?_append_left (by simp)]
          simp
        · by_cases h3 : i = t.length + 1
          · right
            rw [h3, List.getElem?_append_left (by simp)]
            simp
          · right
            rw [List.getElem?_append_right (by simp; omega)]
            rw [← e]; congr 1; simp; omega

theorem texts_all (P : UInt8 → Prop) (h32 : P 32) : ∀ (ts : List (List UInt8)), (∀ t ∈ ts, ∀ b ∈ t, P b) → ∀ b ∈ (ts.map (· ++ [32])).flatten, P b := by
  intro ts h b hb
  rw [List.mem_flatten] at hb
  obtain ⟨x, hx, hb⟩ := hb
  rw [List.mem_map] at hx
  obtain ⟨t, ht, rfl⟩ := hx
  rcases List.mem_append.1 hb with h1 | h1
  · exact h t ht b h1
  · rw [List.mem_singleton.1 h1]; exact h32

theorem TextOk.bytes {s : ByteArray} (h : TextOk s) : ∀ i, i < s.size → byt s i ≠ 92 ∧ byt s i < 128 := by
  obtain ⟨ts, h1, h2⟩ := h
  intro i hi
  obtain ⟨x, hx, e⟩ := byt_list s hi
  have hm := List.mem_of_getElem? hx
  rw [h2] at hm
  have := texts_all (fun b => b ≠ 92 ∧ b < 128) ⟨by decide, by decide⟩ ts (fun t ht b hb => by
    rcases h1 t ht with e | e
    · subst e; rw [List.mem_singleton.1 hb]; exact ⟨by decide, by decide⟩
    · exact (e b hb).2) x hm
  rw [e]
  refine ⟨fun e2 => this.1 (UInt8.toNat_inj.1 e2), ?_⟩
  have := this.2
  exact UInt8.lt_iff_toNat_lt.1 this

theorem TextOk.cut {s : ByteArray} (h : TextOk s) {i : Nat} (hi : i + 1 < s.size) (h1 : byt s i = 59) (h2 : byt s (i + 1) = 32) : CutAt s (i + 2) := by
  refine ⟨by omega, by omega, h1, h2, ?_⟩
  obtain ⟨ts, g1, g2⟩ := h
  obtain ⟨x, hx, e⟩ := byt_list s (show i < s.size by omega)
  have hx9 : x = 59 := UInt8.toNat_inj.1 (by rw [← e, h1]; rfl)
  rw [g2, hx9] at hx
  rcases texts_semi ts g1 i hx with e | e
  · left; omega
  · by_cases h0 : i = 0
    · left; omega
    · right
      rw [← g2] at e
      obtain ⟨y, hy, ey⟩ := byt_list s (show i - 1 < s.size by omega)
      rw [e] at hy
      have : y = 32 := (Option.some.inj hy).symm
      rw [show i + 2 - 3 = i - 1 by omega, ey, this]; rfl

section
variable {s : ByteArray}

end

end Go.Proofs.YtcphhbofjkenaaaGreatDoor

namespace Go.Proofs.YtcphhbofjkenaaaGreatDoor
open Go Go.RowKit
set_option linter.unusedVariables false
set_option linter.unusedSimpArgs false

end Go.Proofs.YtcphhbofjkenaaaGreatDoor

namespace Go.Proofs.YtcphhbofjkenaaaGreatDoor
open Go Go.RowKit
set_option linter.unusedVariables false
set_option linter.unusedSimpArgs false

def CutP (s : ByteArray) (x : Int) : Prop := ∃ m : Nat, x = m ∧ m ≤ s.size ∧ (m = 0 ∨ ∃ i, i + 1 < s.size ∧ byt s i = 59 ∧ byt s (i + 1) = 32 ∧ m = i + 2)
structure CutR (s : ByteArray) (B : Nat) (w0 w : World) (v : Value) (xs : List Int) : Prop where
  row : IRow B w v xs
  cut : ∀ x ∈ xs, CutP s x
  bel : Below B w0 w

set_option maxRecDepth 100000 in
set_option maxHeartbeats 4000000 in
theorem keep_cut (s : ByteArray) (z : Int) (w : World) (hs : s.size ≤ 100000) (hz : I64 z) :
    Calls Tryz.prog 25 #[.string s, .int .i64 z] w fun e w' => ∃ x : Int, e = .returned (.int .i64 x) ∧ CutP s x ∧ Below w.heap.size w w' := by
  obtain ⟨i0, hi, hz0, hz1, hz2⟩ := info_parts Tryz.infoIn
  have HI := hidden (And.intro hi (And.intro hz0 (And.intro hz1 hz2)))
  clear hi hz0 hz1 hz2
  have HZ := hidden hz
  clear hz
  go_enter Tryz.func25, Tryz.ntmps25
  obtain ⟨hi0, hz0, hsz0, hb0⟩ := HI.out
  have HRA : Hid ((w.alloc (.cells #[.int .i64 0] 3 (0, 0))).ownsRow w.heap.size 3 1 (.slice none 0 0) 0 []) := hidden ⟨rfl, Or.inl ⟨rfl, rfl⟩⟩
  have HNW := hidden (newsM w #[.int .i64 0] 3)
  have HBA : Hid (Below w.heap.size w (w.alloc (.cells #[.int .i64 0] 3 (0, 0)))) := hidden ((Below.refl _ _).alloc (Nat.le_refl _) _)
  go_wp2_with (at_builtin; refine wpList_append_own _ rfl _ _ 24 rfl w.heap.size 3 i0 (.int .i64 0) 1 8 Tryz.underlying24 hi0 hz0 hsz0 hb0 rfl (by decide) (.slice none 0 0) 0 [] rfl HRA.out ⟨w.heap.size, 0, none⟩ 1 1 [.int .i64 0] rfl rfl HNW.out (by intro u hu; rw [List.mem_singleton.1 hu]; rfl) (by unfold maxLen; omega) (by omega) HBA.out.size ?_)
  intro v4 w4 hr4 hg4 _
  have hr4' : IRow w.heap.size w4 v4 [0] := hr4
  have hb4 : Below w.heap.size w w4 := HBA.out.trans ((Chg.ofGrown hg4).toBelow HBA.out.size (fun q hq e => by have := own_base HRA.out e.symm; omega))
  obtain ⟨a4, c4, hv4, _, _⟩ := row_shape hr4'
  subst hv4
  rw [show ([0] : List Int).length = 1 from rfl]
  have HF : Hid (CutR s w.heap.size w w4 (.slice a4 1 c4) [0] ∧ 1 = ([0] : List Int).length ∧ 1 ≤ 1 ∧ 1 ≤ 0 + 1) := hidden ⟨⟨hr4', fun x hx => by rw [List.mem_singleton.1 hx]; exact ⟨0, rfl, Nat.zero_le _, Or.inl rfl⟩, hb4⟩, rfl, by omega, by omega⟩
  clear hr4 hg4 hr4' hb4 hi0 hz0 hsz0 hb0 HNW HRA HBA
  go_wp2_with fail
  go_loopw [5, 6] (fun v i wr => ∃ (j : Nat) (xs : List Int) (va : Option Addr) (n vc : Nat), j ≤ s.size ∧ v = .slice va n vc ∧ i = .int .i64 j ∧ Hid (CutR s w.heap.size w wr (.slice va n vc) xs ∧ n = xs.length ∧ 1 ≤ n ∧ n ≤ j + 1)) (fun _ i _ => s.size - (intOf i).toNat)
  case atStart => exact ⟨0, [0], a4, 1, c4, Nat.zero_le _, rfl, rfl, HF⟩
  case round =>
    clear HF
    obtain ⟨j, xs, va, n, vc, hj, rfl, rfl, HC⟩ := hrel
    have HN := hidden HC.out.2.1
    have hn1 : 1 ≤ n := HC.out.2.2.1
    have hn2 : n ≤ j + 1 := HC.out.2.2.2
    by_cases hlt : j + 1 < s.size
    · obtain ⟨c, hcd⟩ : ∃ c : Int, c = byt s j := ⟨_, rfl⟩
      have hck : ((s[j]'(by omega)).toNat : Int) = c := by rw [byt_eq, hcd]
      obtain ⟨d, hdd⟩ : ∃ d : Int, d = byt s (j + 1) := ⟨_, rfl⟩
      have hdk : ((s[j + 1]'(by omega)).toNat : Int) = d := by rw [byt_eq, hdd]
      have HCD := hidden (And.intro hcd hdd)
      clear hcd hdd
      by_cases hc : c = 59
      · by_cases hd : d = 32
        · have e1 : (c == 59) = true := by simp [hc]
          have e2 : (d == 32) = true := by simp [hd]
          have HP : Hid (CutP s ((j : Int) + 2)) := hidden ⟨j + 2, by omega, by omega, Or.inr ⟨j, hlt, by have := HCD.out.1; omega, by have := HCD.out.2; omega, rfl⟩⟩
          clear hc hd
          obtain ⟨hi0, hz0, hsz0, hb0⟩ := HI.out
          have hbA : Below w.heap.size w (wr.alloc (.cells #[.int .i64 ((j : Int) + 2)] 3 (0, 0))) := HC.out.1.bel.alloc HC.out.1.bel.size _
          have hrA : (wr.alloc (.cells #[.int .i64 ((j : Int) + 2)] 3 (0, 0))).ownsRow w.heap.size 3 1 (.slice va n vc) n (ints xs) := by
            have := HC.out.1.row; rw [IRow, ← HN.out] at this; exact this.alloc _
          obtain ⟨qi, hqi⟩ : ∃ qi, qi = ints xs := ⟨_, rfl⟩
          rw [← hqi] at hrA
          have HQ := hidden hqi
          clear hqi
          have HBA := hidden hbA; have HRA := hidden hrA
          have HNW := hidden (newsM wr #[.int .i64 ((j : Int) + 2)] 3)
          clear hbA hrA
          go_wp2_with (at_builtin; refine wpList_append_own _ rfl _ _ 24 rfl w.heap.size 3 i0 (.int .i64 0) 1 8 Tryz.underlying24 hi0 hz0 hsz0 hb0 rfl (by decide) (.slice va n vc) n qi rfl HRA.out ⟨wr.heap.size, 0, none⟩ 1 1 [.int .i64 ((j : Int) + 2)] rfl rfl HNW.out (by intro u hu; rw [List.mem_singleton.1 hu]; rfl) (by unfold maxLen; omega) (by omega) HBA.out.size ?_)
          intro v4 w4 hr4 hg4 _
          have hr4' : IRow w.heap.size w4 v4 (xs ++ [(j : Int) + 2]) := by
            show w4.ownsRow _ _ _ _ _ _
            rw [show ints (xs ++ [(j : Int) + 2]) = ints xs ++ [.int .i64 ((j : Int) + 2)] by simp [ints], List.length_append, ← HN.out, ← HQ.out]
            exact hr4
          have hb4 : Below w.heap.size w w4 := HBA.out.trans ((Chg.ofGrown hg4).toBelow HBA.out.size (fun q hq e => by have := own_base HRA.out e.symm; omega))
          obtain ⟨a4, c4, hv4, _, _⟩ := row_shape hr4'
          subst hv4
          have hcc : ∀ x ∈ xs ++ [(j : Int) + 2], CutP s x := fun x hx => by
            rcases List.mem_append.1 hx with h | h
            · exact HC.out.1.cut x h
            · rw [List.mem_singleton.1 h]; exact HP.out
          have hlen : (xs ++ [(j : Int) + 2]).length = n + 1 := by rw [List.length_append, ← HN.out]; rfl
          obtain ⟨zs, hzs⟩ : ∃ zs, zs = xs ++ [(j : Int) + 2] := ⟨_, rfl⟩
          rw [← hzs] at hr4' hcc hlen ⊢
          obtain ⟨n4, hn4⟩ : ∃ n4, n4 = zs.length := ⟨_, rfl⟩
          have HF : Hid (CutR s w.heap.size w w4 (.slice a4 n4 c4) zs ∧ n4 = zs.length ∧ 1 ≤ n4 ∧ n4 ≤ j + 1 + 1) := hidden ⟨⟨by rw [hn4]; exact hr4', hcc, hb4⟩, hn4, by omega, by omega⟩
          rw [← hn4]
          clear hr4 hg4 hr4' hb4 hi0 hz0 hsz0 hb0 HNW HRA HBA HC hcc HQ hlen HP hzs hn4
          go_wp2_with fail
          go_roundw
          case rel => exact ⟨j + 1, zs, a4, n4, c4, by omega, rfl, by go_num, HF⟩
          case measure => simp only [intOf]; omega
        · have e1 : (c == 59) = true := by simp [hc]
          have e2 : (d == 32) = false := by simpa using hd
          clear hc hd
          go_wp2_with fail
          go_roundw
          case rel => exact ⟨j + 1, xs, va, n, vc, by omega, rfl, by go_num, hidden ⟨HC.out.1, HN.out, hn1, by omega⟩⟩
          case measure => simp only [intOf]; omega
      · have e1 : (c == 59) = false := by simpa using hc
        clear hc
        go_wp2_with fail
        go_roundw
        case rel => exact ⟨j + 1, xs, va, n, vc, by omega, rfl, by go_num, hidden ⟨HC.out.1, HN.out, hn1, by omega⟩⟩
        case measure => simp only [intOf]; omega
    · have HP := hidden (fun w' => keep_pick z (n : Int) HZ.out (by omega) (by omega) w')
      have hns : n ≤ 100001 := by omega
      have hrow : IRow w.heap.size wr (.slice va n vc) xs := HC.out.1.row
      obtain ⟨g, cap, hv, _, hg, _, _, hcc⟩ := row_cells hrow (by have := HN.out; omega)
      simp only [Value.slice.injEq] at hv
      obtain ⟨rfl, hnx, rfl⟩ := hv
      clear hnx
      have HCC := hidden hcc
      clear hrow hcc
      go_wp2_with fail
      refine (HP.out _).mono ?_
      rintro e w5 ⟨r, rfl, r0, r1, rfl⟩
      obtain ⟨y, hy⟩ : ∃ y, xs[r.toNat]? = some y := ⟨_, List.getElem?_eq_getElem (by rw [← HN.out]; omega)⟩
      have hcy : w5.cell? ⟨g, r.toNat, none⟩ = some (.int .i64 y) := HCC.out r.toNat _ (by rw [ints, List.getElem?_map, hy]; rfl)
      have HY := hidden (HC.out.1.cut y (List.mem_of_getElem? hy))
      clear hy HCC HP
      go_wp2_with fail
      go_ret
      exact ⟨y, rfl, HY.out, HC.out.1.bel⟩

end Go.Proofs.YtcphhbofjkenaaaGreatDoor

namespace Go.Proofs.YtcphhbofjkenaaaGreatDoor
open Go Go.RowKit
set_option linter.unusedVariables false
set_option linter.unusedSimpArgs false

theorem mk_words {B mb : Nat} {a : Option Addr} {nn c : Nat} {l : List Int} {k v : Int} {al : Bool} {q : Nat} {L : Nat} {w0 w : World} (h : MK B mb a nn c l k v al q L w0 w) : w.cell? ⟨mb, 3, none⟩ = some (.int .i64 k) ∧ 0 ≤ k ∧ k ≤ 4 := by
  obtain ⟨i, s, _, _, h3, _, _, _, _, h8, _⟩ := h
  exact ⟨h3.cell 3 _ rfl, h8⟩
theorem mk_alone {B mb : Nat} {a : Option Addr} {nn c : Nat} {l : List Int} {k v : Int} {al : Bool} {q : Nat} {L : Nat} {w0 w : World} (h : MK B mb a nn c l k v al q L w0 w) : w.cell? ⟨mb, 5, none⟩ = some (.bool al) := by
  obtain ⟨i, s, _, _, h3, _⟩ := h
  exact h3.cell 5 _ rfl

def BodySaid (B mb : Nat) (a : Option Addr) (nn c : Nat) (l : List Int) (k v : Int) (al : Bool) (q : Nat) (dd : Int) (G : Nat) : Prop :=
  ∀ (L : Nat) (w0 w : World), MK B mb a nn c l k v al q L w0 w → L + 4 * G ≤ 800000 → Calls Tryz.prog 39 #[.pointer (some ⟨mb, 0, none⟩), .int .i64 dd] w fun e w' => e = .returned (.tuple #[]) ∧ MK B mb a nn c l k v al q (L + 4 * G) w0 w'

set_option maxRecDepth 100000 in
set_option maxHeartbeats 8000000 in
theorem mk_body {B mb : Nat} {a : Option Addr} {nn c : Nat} {l : List Int} {k v : Int} {al : Bool} {q : Nat} (dd : Int) (G : Nat) (hd : 0 ≤ dd) (hd2 : dd ≤ 10) (hG : 25 ≤ G) (hrec : 0 < dd → ∃ G', BodySaid B mb a nn c l k v al q (dd - 1) G' ∧ 25 + 8 * G' ≤ G) : BodySaid B mb a nn c l k v al q dd G := by
  intro L w0 w h hL
  have HREC := hidden hrec
  have HN := hidden (mk_next h 4 (by omega) (by omega))
  clear h hrec
  have HL := hidden hL; have HG := hidden hG
  clear hL hG
  go_enter Tryz.func39, Tryz.ntmps39
  go_wp2_with fail
  refine HN.out.mono ?_
  rintro e w1 ⟨n, rfl, n0, n4, hM, hc⟩
  have HM := hidden hM
  clear hM hc HN
  go_wp2_with fail
  go_loopw [5] (fun i wr => ∃ j : Int, 0 ≤ j ∧ j ≤ 1 + n ∧ i = .int .i64 j ∧ Hid (MK B mb a nn c l k v al q (L + j.toNat * G) w0 wr)) (fun i _ => 5 - (intOf i).toNat)
  case atStart => exact ⟨0, Int.le_refl _, by omega, rfl, hidden (by simpa using HM.out)⟩
  case round =>
    clear HM
    obtain ⟨j, hj0, hj1, rfl, HM⟩ := hrel
    by_cases hlt : j < 1 + n
    · obtain ⟨M, hMM⟩ : ∃ M, M = L + j.toNat * G := ⟨_, rfl⟩
      have HMM : Hid (L + (j + 1).toNat * G = M + G ∧ M + G ≤ 800000) := by
        have h1 : (j + 1).toNat * G = j.toNat * G + G := by rw [show (j + 1).toNat = j.toNat + 1 by omega, Nat.succ_mul]
        have h2 : (j + 1).toNat * G ≤ 4 * G := Nat.mul_le_mul_right G (by omega)
        have := HL.out
        exact hidden ⟨by omega, by omega⟩
      rw [← hMM] at HM
      have HN := hidden (mk_next HM.out 8 (by omega) (by omega))
      clear HM hMM
      go_wp2_with fail
      refine HN.out.mono ?_
      rintro e w2 ⟨r, rfl, r0, r8, hM, hc⟩
      have HM2 := hidden hM
      clear hM hc HN
      by_cases hr1 : r = 1
      · subst hr1
        by_cases hpos : 0 < dd
        · obtain ⟨G', hbs, hgg⟩ := HREC.out hpos
          have HBS := hidden hbs; have HGG := hidden hgg
          clear hbs hgg
          go_wp2_with fail
          refine (mk_says HM2.out ⟨#[100, 117, 112, 32, 51, 32, 62, 32, 105, 102]⟩ (by have := HMM.out.2; have := HG.out; have := HGG.out; omega) (by first | decide | omega) (Gr0.of rfl) (L' := M + 11) (by first | exact Nat.le_refl _ | omega)).mono ?_
          rintro e wHA3 ⟨rfl, h⟩
          have HA3 := hidden h
          clear h
          go_wp2_with fail
          refine (HBS.out _ _ _ HA3.out (by have := HMM.out.2; have := HG.out; have := HGG.out; omega)).mono ?_
          rintro e wHA4 ⟨rfl, h⟩
          have HA4 := hidden h
          clear h
          go_wp2_with fail
          refine (mk_next HA4.out 2 (by omega) (by omega)).mono ?_
          rintro e wHA5 ⟨z, rfl, z0, zn, h, _⟩
          have HA5 := hidden h
          clear h
          by_cases hq : z = 1
          · subst hq
            go_wp2_with fail
            refine (mk_says HA5.out ⟨#[101, 108, 115, 101]⟩ (by have := HMM.out.2; have := HG.out; have := HGG.out; omega) (by first | decide | omega) (Gr0.of rfl) (L' := M + 11 + 4 * G' + 5) (by first | exact Nat.le_refl _ | omega)).mono ?_
            rintro e wHA6 ⟨rfl, h⟩
            have HA6 := hidden h
            clear h
            go_wp2_with fail
            refine (HBS.out _ _ _ HA6.out (by have := HMM.out.2; have := HG.out; have := HGG.out; omega)).mono ?_
            rintro e wHA7 ⟨rfl, h⟩
            have HA7 := hidden h
            clear h
            go_wp2_with fail
            refine (mk_says HA7.out ⟨#[116, 104, 101, 110]⟩ (by have := HMM.out.2; have := HG.out; have := HGG.out; omega) (by first | decide | omega) (Gr0.of rfl) (L' := M + 11 + 4 * G' + 5 + 4 * G' + 5) (by first | exact Nat.le_refl _ | omega)).mono ?_
            rintro e wHA8 ⟨rfl, h⟩
            have HA8 := hidden h
            clear h
            go_wp2_with fail
            go_roundw
            case rel => exact ⟨j + 1, by omega, by omega, by go_num, hidden (by rw [HMM.out.1]; exact HA8.out.more (by have := HMM.out.2; have := HG.out; have := HGG.out; omega))⟩
            case measure => simp [intOf]; omega
          · go_wp2_with fail
            refine (mk_says HA5.out ⟨#[116, 104, 101, 110]⟩ (by have := HMM.out.2; have := HG.out; have := HGG.out; omega) (by first | decide | omega) (Gr0.of rfl) (L' := M + 11 + 4 * G' + 5) (by first | exact Nat.le_refl _ | omega)).mono ?_
            rintro e wHA6 ⟨rfl, h⟩
            have HA6 := hidden h
            clear h
            go_wp2_with fail
            go_roundw
            case rel => exact ⟨j + 1, by omega, by omega, by go_num, hidden (by rw [HMM.out.1]; exact HA6.out.more (by have := HMM.out.2; have := HG.out; have := HGG.out; omega))⟩
            case measure => simp [intOf]; omega
        · go_wp2_with fail
          refine (mk_even HM2.out).mono ?_
          rintro e w3 ⟨t, rfl, htl, h⟩
          have HM3 := hidden h
          clear h
          go_wp2_with fail
          refine (mk_says HM3.out t (by have := HMM.out.2; have := HG.out; omega) (by omega) htl.2 (L' := M + 25) (by omega)).mono ?_
          rintro e wHM4 ⟨rfl, h⟩
          have HM4 := hidden h
          clear h
          go_wp2_with fail
          go_roundw
          case rel => exact ⟨j + 1, by omega, by omega, by go_num, hidden (by rw [HMM.out.1]; exact HM4.out.more (by have := HMM.out.2; have := HG.out; omega))⟩
          case measure => simp [intOf]; omega
      · by_cases hr2 : r = 2
        · subst hr2
          by_cases hpos : 0 < dd
          · obtain ⟨G', hbs, hgg⟩ := HREC.out hpos
            have HBS := hidden hbs; have HGG := hidden hgg
            clear hbs hgg
            go_wp2_with fail
            refine (mk_next HM2.out 4 (by omega) (by omega)).mono ?_
            rintro e wHB3 ⟨f, rfl, f0, fn, h, _⟩
            have HB3 := hidden h
            clear h
            go_wp2_with fail
            refine (mk_next HB3.out 4 (by omega) (by omega)).mono ?_
            rintro e wHB4 ⟨g, rfl, g0, gn, h, _⟩
            have HB4 := hidden h
            clear h
            go_wp2_with fail
            refine (mk_digits HB4.out (f + g) (by omega) (by omega)).mono ?_
            rintro e wHB5 ⟨s, rfl, s1, h⟩
            have HB5 := hidden h
            clear h
            go_wp2_with fail
            refine (mk_digits HB5.out (f) (by omega) (by omega)).mono ?_
            rintro e wHB6 ⟨t, rfl, t1, h⟩
            have HB6 := hidden h
            clear h
            go_wp2_with fail
            have hsz : (s ++ ⟨#[32]⟩ ++ t ++ ⟨#[32, 100, 111]⟩ : ByteArray).size = 6 := by
              simp only [ByteArray.size_append, s1.1, t1.1]; rfl
            have hgr : Gr0 (s ++ ⟨#[32]⟩ ++ t ++ ⟨#[32, 100, 111]⟩ : ByteArray).data.toList := Gr0.of (by simp only [ByteArray.data_append, Array.toList_append, List.all_append, s1.2, t1.2]; rfl)
            generalize (s ++ ⟨#[32]⟩ ++ t ++ ⟨#[32, 100, 111]⟩ : ByteArray) = x at hsz hgr ⊢
            refine (mk_says HB6.out x (by have := HMM.out.2; have := HG.out; have := HGG.out; omega) (by omega) hgr (L' := M + 7) (by omega)).mono ?_
            rintro e w7 ⟨rfl, h⟩
            have HB7 := hidden h
            clear h
            go_wp2_with fail
            refine (HBS.out _ _ _ HB7.out (by have := HMM.out.2; have := HG.out; have := HGG.out; omega)).mono ?_
            rintro e wHB8 ⟨rfl, h⟩
            have HB8 := hidden h
            clear h
            go_wp2_with fail
            refine (mk_says HB8.out ⟨#[105, 32, 43, 32, 108, 111, 111, 112]⟩ (by have := HMM.out.2; have := HG.out; have := HGG.out; omega) (by first | decide | omega) (Gr0.of rfl) (L' := M + 7 + 4 * G' + 9) (by first | exact Nat.le_refl _ | omega)).mono ?_
            rintro e wHB9 ⟨rfl, h⟩
            have HB9 := hidden h
            clear h
            go_wp2_with fail
            go_roundw
            case rel => exact ⟨j + 1, by omega, by omega, by go_num, hidden (by rw [HMM.out.1]; exact HB9.out.more (by have := HMM.out.2; have := HG.out; have := HGG.out; omega))⟩
            case measure => simp [intOf]; omega
          · go_wp2_with fail
            refine (mk_even HM2.out).mono ?_
            rintro e w3 ⟨t, rfl, htl, h⟩
            have HM3 := hidden h
            clear h
            go_wp2_with fail
            refine (mk_says HM3.out t (by have := HMM.out.2; have := HG.out; omega) (by omega) htl.2 (L' := M + 25) (by omega)).mono ?_
            rintro e wHM4 ⟨rfl, h⟩
            have HM4 := hidden h
            clear h
            go_wp2_with fail
            go_roundw
            case rel => exact ⟨j + 1, by omega, by omega, by go_num, hidden (by rw [HMM.out.1]; exact HM4.out.more (by have := HMM.out.2; have := HG.out; omega))⟩
            case measure => simp [intOf]; omega
        · by_cases hr3 : r = 3
          · subst hr3
            have ck := (mk_words HM2.out).1
            by_cases hpos : 0 < k
            · have ck := (mk_words HM2.out).1
              have ck4 := (mk_words HM2.out).2
              go_wp2_with fail
              refine (mk_next HM2.out k (by omega) (by omega)).mono ?_
              rintro e wHC3 ⟨f, rfl, f0, fn, h, _⟩
              have HC3 := hidden h
              clear h
              go_wp2_with fail
              refine (mk_digits HC3.out (f) (by omega) (by omega)).mono ?_
              rintro e wHC4 ⟨s, rfl, s1, h⟩
              have HC4 := hidden h
              clear h
              go_wp2_with fail
              have hsz : (⟨#[119]⟩ ++ s : ByteArray).size = 2 := by
                simp only [ByteArray.size_append, s1.1]; rfl
              have hgr : Gr0 (⟨#[119]⟩ ++ s : ByteArray).data.toList := Gr0.of (by simp only [ByteArray.data_append, Array.toList_append, List.all_append, s1.2]; rfl)
              generalize (⟨#[119]⟩ ++ s : ByteArray) = x at hsz hgr ⊢
              refine (mk_says HC4.out x (by have := HMM.out.2; have := HG.out; omega) (by omega) hgr (L' := M + 25) (by omega)).mono ?_
              rintro e w7 ⟨rfl, h⟩
              have HC5 := hidden h
              clear h
              go_wp2_with fail
              go_roundw
              case rel => exact ⟨j + 1, by omega, by omega, by go_num, hidden (by rw [HMM.out.1]; exact HC5.out.more (by have := HMM.out.2; have := HG.out; omega))⟩
              case measure => simp [intOf]; omega
            · go_wp2_with fail
              refine (mk_even HM2.out).mono ?_
              rintro e w3 ⟨t, rfl, htl, h⟩
              have HM3 := hidden h
              clear h
              go_wp2_with fail
              refine (mk_says HM3.out t (by have := HMM.out.2; have := HG.out; omega) (by omega) htl.2 (L' := M + 25) (by omega)).mono ?_
              rintro e wHM4 ⟨rfl, h⟩
              have HM4 := hidden h
              clear h
              go_wp2_with fail
              go_roundw
              case rel => exact ⟨j + 1, by omega, by omega, by go_num, hidden (by rw [HMM.out.1]; exact HM4.out.more (by have := HMM.out.2; have := HG.out; omega))⟩
              case measure => simp [intOf]; omega
          · by_cases hr4 : r = 4
            · subst hr4
              cases al with
              | false =>
                have cal : w2.cell? ⟨mb, 5, none⟩ = some (.bool false) := mk_alone HM2.out
                obtain ⟨X, hX⟩ : ∃ X : World, X = w2.alloc (.cells #[.string ⟨#[105, 110, 32, 43]⟩, .string ⟨#[100, 117, 112, 32, 51, 32, 33]⟩, .string ⟨#[49, 32, 64, 32, 43]⟩, .string ⟨#[100, 117, 112, 32, 48, 32, 33]⟩, .string ⟨#[48, 32, 64, 32, 109, 97, 120]⟩, .string ⟨#[100, 117, 112, 32, 57, 32, 109, 111, 100, 32, 64, 32, 43]⟩] 9 (0, 0)) := ⟨_, rfl⟩
                obtain ⟨g, hg⟩ : ∃ g, g = w2.heap.size := ⟨_, rfl⟩
                have hbX : Below w2.heap.size w2 X := by rw [hX]; exact (Below.refl _ _).alloc (Nat.le_refl _) _
                have hrX : ∀ (j : Nat) (u : Value), (others.map Value.string)[j]? = some u → X.cell? ⟨g, j, none⟩ = some u := fun j u hu => by
                  rw [hX, hg]
                  exact (blk_new w2 _ _).cell j u (by rw [← Array.getElem?_toList]; exact hu)
                have hgX : g < X.heap.size := by rw [hX, hg]; simp
                have hgm : g ≠ mb := by have := HM2.out.lt; omega
                have HNN := hidden (mk_next (HM2.out.below hbX) 6 (by omega) (by omega))
                have HX := hidden hX; have HR := hidden hrX; have HGE := hidden hg
                clear hX hrX hbX hg
                go_wp2_with fail
                rw [← HX.out, ← HGE.out]
                refine HNN.out.mono ?_
                rintro e w3 ⟨f, rfl, f1, f2, hM, hc⟩
                obtain ⟨t, ht, htl⟩ := others_small f.toNat (by omega)
                have hx : w3.cell? ⟨g, f.toNat, none⟩ = some (.string t) := (hc.cell (p := ⟨g, f.toNat, none⟩) hgX hgm).trans (HR.out _ _ ht)
                have HM3 := hidden hM
                clear hM hc ht HNN HX HR HGE
                go_wp2_with fail
                refine (mk_says HM3.out t (by have := HMM.out.2; have := HG.out; omega) (by omega) htl.2 (L' := M + 25) (by omega)).mono ?_
                rintro e wHM4 ⟨rfl, h⟩
                have HM4 := hidden h
                clear h
                go_wp2_with fail
                go_roundw
                case rel => exact ⟨j + 1, by omega, by omega, by go_num, hidden (by rw [HMM.out.1]; exact HM4.out.more (by have := HMM.out.2; have := HG.out; omega))⟩
                case measure => simp [intOf]; omega
              | true =>
                have cal : w2.cell? ⟨mb, 5, none⟩ = some (.bool true) := mk_alone HM2.out
                go_wp2_with fail
                refine (mk_even HM2.out).mono ?_
                rintro e w3 ⟨t, rfl, htl, h⟩
                have HM3 := hidden h
                clear h
                go_wp2_with fail
                refine (mk_says HM3.out t (by have := HMM.out.2; have := HG.out; omega) (by omega) htl.2 (L' := M + 25) (by omega)).mono ?_
                rintro e wHM4 ⟨rfl, h⟩
                have HM4 := hidden h
                clear h
                go_wp2_with fail
                go_roundw
                case rel => exact ⟨j + 1, by omega, by omega, by go_num, hidden (by rw [HMM.out.1]; exact HM4.out.more (by have := HMM.out.2; have := HG.out; omega))⟩
                case measure => simp [intOf]; omega
            · go_wp2_with fail
              refine (mk_even HM2.out).mono ?_
              rintro e w3 ⟨t, rfl, htl, h⟩
              have HM3 := hidden h
              clear h
              go_wp2_with fail
              refine (mk_says HM3.out t (by have := HMM.out.2; have := HG.out; omega) (by omega) htl.2 (L' := M + 25) (by omega)).mono ?_
              rintro e wHM4 ⟨rfl, h⟩
              have HM4 := hidden h
              clear h
              go_wp2_with fail
              go_roundw
              case rel => exact ⟨j + 1, by omega, by omega, by go_num, hidden (by rw [HMM.out.1]; exact HM4.out.more (by have := HMM.out.2; have := HG.out; omega))⟩
              case measure => simp [intOf]; omega
    · go_wp2_with fail
      go_end0
      refine ⟨rfl, HM.out.more ?_⟩
      have : j.toNat * G ≤ 4 * G := Nat.mul_le_mul_right G (by omega)
      omega

end Go.Proofs.YtcphhbofjkenaaaGreatDoor

namespace Go.Proofs.YtcphhbofjkenaaaGreatDoor
open Go Go.RowKit
set_option linter.unusedVariables false
set_option linter.unusedSimpArgs false

section
variable {B mb : Nat} {a : Option Addr} {nn c : Nat} {l : List Int} {k v : Int} {al : Bool} {q : Nat} {L : Nat} {w0 w : World}

theorem mk_vars (h : MK B mb a nn c l k v al q L w0 w) : w.cell? ⟨mb, 4, none⟩ = some (.int .i64 v) := by
  obtain ⟨i, s, _, _, h3, _⟩ := h
  exact h3.cell 4 _ rfl
theorem mk_free (h : MK B mb a nn c l k v al q L w0 w) (o : Nat) : w.frozen? ⟨mb, o, none⟩ = false := by
  obtain ⟨i, s, _, _, h3, _⟩ := h
  exact h3.frozen o
theorem MK.setV (h : MK B mb a nn c l k v al q L w0 w) (v' : Int) : MK B mb a nn c l k v' al q L w0 (w.setCell ⟨mb, 4, none⟩ (.int .i64 v')) := by
  obtain ⟨i, s, h1, h2, h3, h4, h5, h6, h7, h8, h9⟩ := h
  have hb := h3.set (o := 4) (.int .i64 v')
  have hc : Chg (fun b => b = mb) w (w.setCell ⟨mb, 4, none⟩ (.int .i64 v')) := (Chg.refl (fun b => b = mb) w).setCell (p := ⟨mb, 4, none⟩) rfl _
  exact ⟨i, s, h1, h2, by simpa [mkC] using hb, h4.chg hc (Nat.le_of_lt (Nat.lt_of_le_of_lt h6 h3.lt)) (fun b hb e => by omega), h5, h6, h7, h8, h9.trans hc⟩
theorem MK.setK (h : MK B mb a nn c l k v al q L w0 w) (k' : Int) (hk : 0 ≤ k' ∧ k' ≤ 4) : MK B mb a nn c l k' v al q L w0 (w.setCell ⟨mb, 3, none⟩ (.int .i64 k')) := by
  obtain ⟨i, s, h1, h2, h3, h4, h5, h6, h7, h8, h9⟩ := h
  have hb := h3.set (o := 3) (.int .i64 k')
  have hc : Chg (fun b => b = mb) w (w.setCell ⟨mb, 3, none⟩ (.int .i64 k')) := (Chg.refl (fun b => b = mb) w).setCell (p := ⟨mb, 3, none⟩) rfl _
  exact ⟨i, s, h1, h2, by simpa [mkC] using hb, h4.chg hc (Nat.le_of_lt (Nat.lt_of_le_of_lt h6 h3.lt)) (fun b hb e => by omega), h5, h6, h7, hk, h9.trans hc⟩

theorem MK.moreq {q' L' : Nat} (h : MK B mb a nn c l k v al q L w0 w) (hq : q ≤ q') (hL : L ≤ L') : MK B mb a nn c l k v al q' L' w0 w := by
  obtain ⟨i, s, h1, h2, r⟩ := h
  exact ⟨i, s, h1, ⟨by omega, h2.2.1, by omega⟩, r⟩
theorem mk_body2 : BodySaid B mb a nn c l k v al q 2 1825 :=
  mk_body 2 1825 (by omega) (by omega) (by omega) (fun _ => ⟨225, mk_body 1 225 (by omega) (by omega) (by omega) (fun _ => ⟨25, mk_body 0 25 (by omega) (by omega) (by omega) (fun h => absurd h (by omega)), by omega⟩), by omega⟩)
end

def MadePost (w : World) (a : Option Addr) (nn c : Nat) (al : Bool) (e : Ending) (w' : World) : Prop := ∃ (mb : Nat) (i : Int) (s : ByteArray) (k v : Int), e = .returned (.pointer (some ⟨mb, 0, none⟩)) ∧ w.heap.size ≤ mb ∧ 1 ≤ k ∧ k ≤ 4 ∧ s.size ≤ 100000 ∧ TextOk s ∧ s.data.toList.count 59 ≤ 4 ∧ Blk w' mb (mkC a nn c i s k v al) 34 ∧ Below w.heap.size w w'

set_option maxRecDepth 100000 in
set_option maxHeartbeats 8000000 in
theorem mk_made {B : Nat} (w : World) (a : Option Addr) (nn c : Nat) (l : List Int) (al : Bool) (hr : InsAt B w (.slice a nn c) l) (hl : ∀ x ∈ l, I64 x) (hB : B ≤ w.heap.size) (hil : l.length ≤ 17592186043904) :
    Calls Tryz.prog 14 #[.slice a nn c, .bool al] w fun e w' => MadePost w a nn c al e w' := by
  obtain ⟨mb, hmb⟩ : ∃ mb, mb = w.heap.size := ⟨_, rfl⟩
  obtain ⟨X, hX⟩ : ∃ X : World, X = w.alloc (.cells (mkC a nn c 0 ⟨#[]⟩ 0 0 al) 34 (0, 0)) := ⟨_, rfl⟩
  have hbX : Below w.heap.size w X := by rw [hX]; exact (Below.refl _ _).alloc (Nat.le_refl _) _
  have hkX : Blk X mb (mkC a nn c 0 ⟨#[]⟩ 0 0 al) 34 := by rw [hX, hmb]; exact blk_new w _ _
  have hMX : MK B mb a nn c l 0 0 al 0 0 X X := ⟨0, _, Int.le_refl _, ⟨Nat.le_refl _, .nil, Nat.le_refl _⟩, hkX, hr.below (hbX.mono hB), hl, by omega, hil, ⟨by omega, by omega⟩, Chg.refl _ _⟩
  have HMB := hidden hmb; have HMX := hidden hMX
  have HFIN : Hid (∀ w', Chg (fun b => b = mb) X w' → Below w.heap.size w w') := hidden fun w' hc => hbX.trans (hc.toBelow hbX.size (fun b hb e => by omega))
  have HX : Hid (X = w.alloc (.cells #[.slice a nn c, .int .i64 0, .string ⟨#[]⟩, .int .i64 0, .int .i64 0, .bool al] 34 (0, 0))) := hidden hX
  clear hX hmb hbX hkX hMX hr hl
  go_enter Tryz.func14, Tryz.ntmps14
  go_upto_region 2 with fail
  rw [← HX.out, ← HMB.out]
  cases al
  case' false =>
    obtain ⟨al', hal⟩ : ∃ x : Bool, x = false := ⟨_, rfl⟩
    go_wp2_with fail
    refine (mk_next HMX.out 5 (by omega) (by omega)).mono ?_
    rintro e w1 ⟨v, rfl, v0, v5, h, _⟩
    have f4 := mk_free h 4
    have c4 := mk_vars h
    have HM1 : Hid (MK B mb a nn c l 0 v al' 0 0 X (w1.setCell ⟨mb, 4, none⟩ (.int .i64 v))) := by rw [hal]; exact hidden (h.setV v)
    clear h HMX
    go_wp2_with fail
    obtain ⟨W, hW⟩ : ∃ W : World, W = w1.setCell ⟨mb, 4, none⟩ (.int .i64 v) := ⟨_, rfl⟩
    rw [← hW] at HM1 ⊢
    have HAL : Hid (false = al') := hidden hal.symm
    clear hW f4 c4 hal
  case' true =>
    obtain ⟨al', hal⟩ : ∃ x : Bool, x = true := ⟨_, rfl⟩
    go_wp2_with fail
    obtain ⟨W, hW⟩ : ∃ W : World, W = X := ⟨_, rfl⟩
    obtain ⟨v, hv⟩ : ∃ v : Int, v = 0 := ⟨_, rfl⟩
    have HM1 : Hid (MK B mb a nn c l 0 v al' 0 0 X W) := by rw [hv, hW, hal]; exact HMX
    have v0 : 0 ≤ v := by omega
    have v5 : v < 5 := by omega
    have HW : Hid (X = W) := hidden hW.symm
    have HAL : Hid (true = al') := hidden hal.symm
    clear hv HMX hal
    rw [← hW]
    clear hW
  all_goals
    go_loopw [6] (fun i wr => ∃ j : Int, 0 ≤ j ∧ j ≤ v ∧ i = .int .i64 j ∧ Hid (MK B mb a nn c l 0 v al' 0 (j.toNat * 12) X wr)) (fun i _ => 5 - (intOf i).toNat)
    case atStart => exact ⟨0, Int.le_refl _, v0, rfl, hidden (by simpa using HM1.out)⟩
    case round =>
      clear HM1
      obtain ⟨j, hj0, hj1, rfl, HM⟩ := hrel
      have cv := mk_vars HM.out
      by_cases hlt : j < v
      · go_wp2_with fail
        refine (mk_digits HM.out j hj0 (by omega)).mono ?_
        rintro e w2 ⟨s, rfl, s1, h⟩
        have HM2 := hidden h
        clear h cv HM
        go_wp2_with fail
        have hsz : (⟨#[118, 97, 114, 105, 97, 98, 108, 101, 32, 118]⟩ ++ s : ByteArray).size = 11 := by simp only [ByteArray.size_append, s1.1]; rfl
        have hgr : Gr0 (⟨#[118, 97, 114, 105, 97, 98, 108, 101, 32, 118]⟩ ++ s : ByteArray).data.toList := Gr0.of (by simp only [ByteArray.data_append, Array.toList_append, List.all_append, s1.2]; rfl)
        generalize (⟨#[118, 97, 114, 105, 97, 98, 108, 101, 32, 118]⟩ ++ s : ByteArray) = x at hsz hgr ⊢
        refine (mk_says HM2.out x (by omega) (by omega) hgr (L' := j.toNat * 12 + 12) (by omega)).mono ?_
        rintro e w3 ⟨rfl, h⟩
        have HM3 := hidden h
        clear h
        go_wp2_with fail
        go_roundw
        case rel => exact ⟨j + 1, by omega, by omega, by go_num, hidden (HM3.out.more (by omega))⟩
        case measure => simp [intOf]; omega
      · have HM0 := hidden (HM.out.more (L' := 48) (by omega))
        clear HM
        go_wp2_with fail
        refine (mk_next HM0.out 4 (by omega) (by omega)).mono ?_
        rintro e w2 ⟨n, rfl, n0, n4, h, _⟩
        have HM2 := hidden h
        clear h HM0 cv
        go_wp2_with fail
        go_loopw [8] (fun i wr => ∃ j : Int, 0 ≤ j ∧ j ≤ 1 + n ∧ i = .int .i64 j ∧ Hid (MK B mb a nn c l j v al' j.toNat (48 + j.toNat * 7307) X wr)) (fun i _ => 5 - (intOf i).toNat)
        case atStart => exact ⟨0, Int.le_refl _, by omega, rfl, hidden (by simpa using HM2.out)⟩
        case round =>
          clear HM2
          obtain ⟨t, ht0, ht1, rfl, HM⟩ := hrel
          by_cases hlt2 : t < 1 + n
          · go_wp2_with fail
            refine (mk_digits HM.out t ht0 (by omega)).mono ?_
            rintro e w3 ⟨s, rfl, s1, h⟩
            have HM3 := hidden h
            clear h HM
            go_wp2_with fail
            have hsz : (⟨#[58, 32, 119]⟩ ++ s : ByteArray).size = 4 := by simp only [ByteArray.size_append, s1.1]; rfl
            have hgr : Gr0 (⟨#[58, 32, 119]⟩ ++ s : ByteArray).data.toList := Gr0.of (by simp only [ByteArray.data_append, Array.toList_append, List.all_append, s1.2]; rfl)
            generalize (⟨#[58, 32, 119]⟩ ++ s : ByteArray) = x at hsz hgr ⊢
            refine (mk_says HM3.out x (by omega) (by omega) hgr (L' := 48 + t.toNat * 7307 + 5) (by omega)).mono ?_
            rintro e w4 ⟨rfl, h⟩
            have HM4 := hidden h
            clear h HM3
            go_wp2_with fail
            refine (mk_body2 _ _ _ HM4.out (by omega)).mono ?_
            rintro e w5 ⟨rfl, h⟩
            have HM5 := hidden h
            clear h HM4
            go_wp2_with fail
            refine (mk_semi HM5.out (by omega)).mono ?_
            rintro e w6 ⟨rfl, h⟩
            have ck := (mk_words h).1
            have f3 := mk_free h 3
            have HM6 := hidden h
            clear h HM5
            go_wp2_with fail
            go_roundw
            case rel => exact ⟨t + 1, by omega, by omega, by go_num, hidden ((HM6.out.setK (t + 1) ⟨by omega, by omega⟩).moreq (by omega) (by omega))⟩
            case measure => simp [intOf]; omega
          · go_wp2_with fail
            go_ret
            obtain ⟨i, s, i0, ⟨s1, s2, s3⟩, hb, _, _, _, _, _, hc⟩ := HM.out
            exact (show MadePost _ _ _ _ _ _ _ from ⟨mb, i, s, t, v, rfl, by have := HMB.out; omega, by omega, by omega, by omega, s2, by omega, by rw [HAL.out]; exact hb, HFIN.out _ hc⟩)

end Go.Proofs.YtcphhbofjkenaaaGreatDoor

namespace Go.Proofs.YtcphhbofjkenaaaGreatDoor
open Go Go.RowKit
set_option linter.unusedVariables false
set_option linter.unusedSimpArgs false
attribute [local go_sem] quietG

def runK (C : Int) (D : Nat × Int × List Int × MW) : Int × Int × List Int × List Int × List Int := if C = 0 then ((D.1 : Int), D.2.1, D.2.2.1.reverse, D.2.2.2.outs, D.2.2.2.vars) else (0, 0, [], [], [])

theorem keep_runAny {w : World} {bb : Nat} {R : List PE × Int × Int × List Int} {ws : List RW} {sv iv : Value} {st ins : List Int} (h : KSys w bb R ws) (x : ByteArray) (f : Int) (hs : InsAt w.heap.size w sv st) (hj : InsAt w.heap.size w iv ins) (hl : st.length ≤ 17592186043904) (hl2 : ins.length ≤ 17592186043904) :
    Calls Tryz.prog 21 #[.pointer (some ⟨bb, 0, none⟩), .string x, sv, iv, .int .i64 f] w fun e w' => ∃ (xa oa va : Option Addr) (xn xc on oc vn vc : Nat), e = .returned (.tuple #[.agg #[.slice xa xn xc, .slice oa on oc, .slice va vn vc, .int .i64 (runK (runC ws x st ins f) (runD ws R.2.1.toNat x st ins f.toNat)).1, .int .i64 (runK (runC ws x st ins f) (runD ws R.2.1.toNat x st ins f.toNat)).2.1], .int .i64 (runC ws x st ins f)]) ∧
      OutK w.heap.size w' (.slice xa xn xc) (.slice oa on oc) (.slice va vn vc) (runK (runC ws x st ins f) (runD ws R.2.1.toNat x st ins f.toNat)).2.2.1 (runK (runC ws x st ins f) (runD ws R.2.1.toNat x st ins f.toNat)).2.2.2.1 (runK (runC ws x st ins f) (runD ws R.2.1.toNat x st ins f.toNat)).2.2.2.2 ∧ Below w.heap.size w w' := by
  obtain ⟨ev, cv, hsys⟩ := h.sys
  refine (forth_runD x f hsys h.inv h.tab h.alk hs hj (Nat.le_refl _) hl hl2).mono ?_
  rintro e w' ⟨hp, hb⟩
  generalize runC ws x st ins f = C at hp ⊢
  generalize runD ws R.2.1.toNat x st ins f.toNat = D at hp ⊢
  rcases hp with ⟨hne, rfl⟩ | ⟨rfl, xv, ov, vv, rfl, hro⟩
  · have hv : runK C D = (0, 0, [], [], []) := by unfold runK; rw [if_neg hne]
    rw [hv]
    exact ⟨none, none, none, 0, 0, 0, 0, 0, 0, rfl, ⟨World.ownsRow_nil _ _ _ _, World.ownsRow_nil _ _ _ _, World.ownsRow_nil _ _ _ _⟩, hb⟩
  · have hv : runK 0 D = ((D.1 : Int), D.2.1, D.2.2.1.reverse, D.2.2.2.outs, D.2.2.2.vars) := by unfold runK; rw [if_pos rfl]
    rw [hv]
    obtain ⟨xa, xn, xc, rfl⟩ := irow_shape hro.s
    obtain ⟨oa, on, oc, rfl⟩ := irow_shape hro.o
    obtain ⟨va, vn, vc, rfl⟩ := irow_shape hro.v
    exact ⟨xa, oa, va, xn, xc, on, oc, vn, vc, rfl, ⟨hro.s, hro.o, hro.v⟩, hb⟩

theorem runK_len {R : List PE × Int × Int × List Int} {ws : List RW} (hk : Alk R.1 R.2.2.2 ws) (x : ByteArray) (st ins : List Int) (f : Int) (nv : Nat) (hnv : nv ≤ 1000) :
    (runK (runC ws x st ins f) (runD ws nv x st ins f.toNat)).2.2.1.length ≤ 2000000 ∧ (runK (runC ws x st ins f) (runD ws nv x st ins f.toNat)).2.2.2.1.length ≤ 2000000 ∧ (runK (runC ws x st ins f) (runD ws nv x st ins f.toNat)).2.2.2.2.length ≤ 2000000 := by
  by_cases hC : runC ws x st ins f = 0
  · have h0 : (findI ws x).2 = 0 := by
      refine Classical.byContradiction fun h => ?_
      unfold runC at hC
      rw [if_pos h] at hC
      exact absurd hC (by decide)
    have hm : mayR st ins f = true := by
      refine Classical.byContradiction fun h => ?_
      unfold runC at hC
      rw [if_neg (by omega), if_neg h] at hC
      exact absurd hC (by decide)
    obtain ⟨_, _, _, _, _, r1, r2, r3⟩ := runD_runM hk h0 hm nv
    have hv : ∀ D, runK 0 D = ((D.1 : Int), D.2.1, D.2.2.1.reverse, D.2.2.2.outs, D.2.2.2.vars) := fun D => by unfold runK; rw [if_pos rfl]
    rw [hC, hv]
    simp only [List.length_reverse]
    exact ⟨by omega, by omega, by omega⟩
  · have hv : ∀ D, runK (runC ws x st ins f) D = (0, 0, [], [], []) := fun D => by unfold runK; rw [if_neg hC]
    rw [hv]; simp

theorem lay_outc (w : World) (cs : Array Value) : ∃ (ob : Nat) (Y : World), ob = w.heap.size ∧ Y = w.alloc (.cells cs 43 (0, 0)) ∧ Blk Y ob cs 43 ∧ Below w.heap.size w Y :=
  ⟨_, _, rfl, rfl, blk_new w _ _, (Below.refl _ _).alloc (Nat.le_refl _) _⟩
theorem lay_int (w : World) (x : Int) : ∃ (b : Nat) (Y : World), b = w.heap.size ∧ Y = w.alloc (.cells #[.int .i64 x] 3 (0, 0)) ∧ InsAt Y.heap.size Y (.slice (some ⟨b, 0, none⟩) 1 1) [x] ∧ Below w.heap.size w Y ∧ Y.heap.size = b + 1 := by
  refine ⟨_, _, rfl, rfl, Or.inr ⟨w.heap.size, 0, 1, rfl, by simp, by simp, fun j y hy => ?_⟩, (Below.refl _ _).alloc (Nat.le_refl _) _, by simp⟩
  match j, hy with
  | 0, hy =>
    obtain rfl : x = y := by simpa using hy
    exact (blk_new w #[.int .i64 x] 3).cell 0 _ rfl

set_option maxRecDepth 100000 in
set_option maxHeartbeats 8000000 in
theorem keep_sameWords {w : World} {aa bb : Nat} {R : List PE × Int × Int × List Int} {ws : List RW} (ha : KSys w aa R ws) (hb : KSys w bb R ws) :
    Calls Tryz.prog 26 #[.pointer (some ⟨aa, 0, none⟩), .pointer (some ⟨bb, 0, none⟩)] w fun e w' => e = .returned (.bool true) ∧ Below w.heap.size w w' := by
  obtain ⟨eva, cva, hsa⟩ := ha.sys
  obtain ⟨n, hn⟩ : ∃ n, n = R.1.length := ⟨_, rfl⟩
  obtain ⟨nm, hnm⟩ : ∃ nm : Nat → ByteArray, nm = fun i => (R.1.getD i PE.zero).name := ⟨_, rfl⟩
  have hn4 : n ≤ 40 := by rw [hn]; exact ha.inv.l
  have hwd : ∀ {w' : World} {b : Nat} {ev cv : Value}, PSys w' b ev cv R.1 R.2.1 R.2.2.1 R.2.2.2 → Tab w' → Calls Tryz.prog 32 #[.pointer (some ⟨b, 0, none⟩)] w' fun e w2 => ∃ g, e = .returned (.slice (some ⟨g, 0, none⟩) n n) ∧ w'.heap.size ≤ g ∧ w2.rowIs g 9 n (fun i => .string (nm i)) ∧ Below w'.heap.size w' w2 := fun {w' b ev cv} h ht => by
    have := forth_words h (by have := ha.inv.l; omega) ht
    rw [← hn] at this
    rw [hnm]
    exact this
  have HWa := hidden (hwd hsa ha.tab)
  have HWD : Hid (∀ {w' : World} {b : Nat} {ev cv : Value}, PSys w' b ev cv R.1 R.2.1 R.2.2.1 R.2.2.2 → Tab w' → Calls Tryz.prog 32 #[.pointer (some ⟨b, 0, none⟩)] w' fun e w2 => ∃ g, e = .returned (.slice (some ⟨g, 0, none⟩) n n) ∧ w'.heap.size ≤ g ∧ w2.rowIs g 9 n (fun i => .string (nm i)) ∧ Below w'.heap.size w' w2) := hidden hwd
  have HA := hidden ha; have HB := hidden hb
  clear ha hb hsa hwd hn hnm
  go_enter Tryz.func26, Tryz.ntmps26
  go_wp2_with fail
  refine HWa.out.mono ?_
  rintro e w1 ⟨g1, rfl, hg1, hrow1, hb1⟩
  obtain ⟨evb, cvb, hsb⟩ := (HB.out.below hb1).sys
  have HWb := hidden (HWD.out hsb (HB.out.below hb1).tab)
  have HB1 := hidden hb1; have HR1 := hidden hrow1
  clear hb1 hrow1 hsb HWa HWD
  go_wp2_with fail
  refine HWb.out.mono ?_
  rintro e w2 ⟨g2, rfl, hg2, hrow2, hb2⟩
  have HG : Hid (∀ w', Below w2.heap.size w2 w' → ∀ i, i < n → w'.cell? ⟨g1, i, none⟩ = some (.string (nm i)) ∧ w'.cell? ⟨g2, i, none⟩ = some (.string (nm i)) ∧ g1 < w'.heap.size ∧ g2 < w'.heap.size) := hidden fun w' hb' i hi => by
    have h1 := HR1.out.lt
    have h2 := hrow2.lt
    have h12 := hb2.size
    refine ⟨?_, (hb'.cell (p := ⟨g2, i, none⟩) h2).trans (hrow2.cell hi), by have := hb'.size; omega, by have := hb'.size; omega⟩
    exact (hb'.cell (p := ⟨g1, i, none⟩) (show g1 < w2.heap.size by omega)).trans ((hb2.cell (p := ⟨g1, i, none⟩) h1).trans (HR1.out.cell hi))
  have hb02 := HB1.out.trans (hb2.mono HB1.out.size)
  have HA2 := hidden (HA.out.below hb02); have HB2 := hidden (HB.out.below hb02)
  have HBE := hidden hb02
  clear hrow2 hb2 hb02 HWb HR1 HB1 HA HB
  have hee : ((n : Int) != (n : Int)) = false := by simp
  go_wp2_with fail
  go_loopw [7] (fun i wr => ∃ j : Nat, j ≤ n ∧ i = .int .i64 j ∧ Hid (Below w2.heap.size w2 wr)) (fun i _ => n - (intOf i).toNat)
  case atStart => exact ⟨0, Nat.zero_le _, rfl, hidden (Below.refl _ _)⟩
  case round =>
    obtain ⟨j, hj, rfl, HW⟩ := hrel
    by_cases hlt : j < n
    · have hji : (j : Int) < (n : Int) := by omega
      obtain ⟨c1, c2, l1, l2⟩ := HG.out wr HW.out j hlt
      obtain ⟨x, hx⟩ : ∃ x, x = nm j := ⟨_, rfl⟩
      rw [← hx] at c1 c2
      obtain ⟨⟨⟨b1, b2, b3, b4, b5⟩, fl⟩, hR⟩ : ∃ R, R = findI ws x := ⟨_, rfl⟩
      have hff : ∀ {b : Nat} {w' : World}, KSys w' b R ws → Calls Tryz.prog 18 #[.pointer (some ⟨b, 0, none⟩), .string x] w' fun e w3 => e = .returned (.tuple #[.agg #[.int .i64 b1, .int .i64 b2, .int .i64 b3, .int .i64 b4, .bool b5], .int .i64 fl]) ∧ Below w'.heap.size w' w3 := fun {b w'} h => by
        obtain ⟨ev, cv, hsys⟩ := h.sys
        have := forth_find x hsys (by have := h.inv.l; omega)
        rw [find_eq h.alk.toAlike, ← hR] at this
        exact this
      have HFA := hidden (hff (HA2.out.below HW.out))
      have HFF : Hid (∀ {b : Nat} {w' : World}, KSys w' b R ws → Calls Tryz.prog 18 #[.pointer (some ⟨b, 0, none⟩), .string x] w' fun e w3 => e = .returned (.tuple #[.agg #[.int .i64 b1, .int .i64 b2, .int .i64 b3, .int .i64 b4, .bool b5], .int .i64 fl]) ∧ Below w'.heap.size w' w3) := hidden hff
      have HX := hidden hx
      clear hff hR hx
      go_wp2_with fail
      refine HFA.out.mono ?_
      rintro e w7 ⟨rfl, hb7⟩
      obtain ⟨x7, hx7⟩ : ∃ x, x = w7.heap.size := ⟨_, rfl⟩
      obtain ⟨Y, hY⟩ : ∃ Y : World, Y = w7.alloc (.cells #[.int .i64 b1, .int .i64 b2, .int .i64 b3, .int .i64 b4, .bool b5] 36 (0, 0)) := ⟨_, rfl⟩
      have hbY : Below wr.heap.size wr Y := by rw [hY]; exact hb7.alloc hb7.size _
      have hkY : Blk Y x7 #[.int .i64 b1, .int .i64 b2, .int .i64 b3, .int .i64 b4, .bool b5] 36 := by rw [hY, hx7]; exact blk_new w7 _ _
      have hWY := HW.out.trans (hbY.mono HW.out.size)
      obtain ⟨y1, y2, m1, m2⟩ := HG.out Y hWY j hlt
      rw [← HX.out] at y1 y2
      have HRY := hidden (HFF.out (HB2.out.below hWY)); have HKY := hidden hkY; have HWY := hidden hWY; have HYY := hidden hY; have HX7 := hidden hx7
      clear HFA HFF hb7 hbY hkY hWY hY hx7 c1 c2 l1 l2 y1
      go_upto_region 9 with fail
      rw [← HYY.out, ← HX7.out]
      go_wp2_with fail
      refine HRY.out.mono ?_
      rintro e w8 ⟨rfl, hb8⟩
      obtain ⟨x8, hx8⟩ : ∃ x, x = w8.heap.size := ⟨_, rfl⟩
      obtain ⟨Z, hZ⟩ : ∃ Z : World, Z = w8.alloc (.cells #[.int .i64 b1, .int .i64 b2, .int .i64 b3, .int .i64 b4, .bool b5] 36 (0, 0)) := ⟨_, rfl⟩
      have hbZ : Below Y.heap.size Y Z := by rw [hZ]; exact hb8.alloc hb8.size _
      have hkZ : Blk Z x8 #[.int .i64 b1, .int .i64 b2, .int .i64 b3, .int .i64 b4, .bool b5] 36 := by rw [hZ, hx8]; exact blk_new w8 _ _
      have hkYZ := HKY.out.sub hbZ HKY.out.lt
      have hWZ := HWY.out.trans (hbZ.mono HWY.out.size)
      obtain ⟨z1, z2, k1, k2⟩ := HG.out Z hWZ j hlt
      rw [← HX.out] at z1 z2
      have s0 : Z.cell? ⟨x7, 0, none⟩ = some (.int .i64 b1) := hkYZ.cell 0 _ rfl
      have s1 : Z.cell? ⟨x7, 1, none⟩ = some (.int .i64 b2) := hkYZ.cell 1 _ rfl
      have s2 : Z.cell? ⟨x7, 2, none⟩ = some (.int .i64 b3) := hkYZ.cell 2 _ rfl
      have s3 : Z.cell? ⟨x7, 3, none⟩ = some (.int .i64 b4) := hkYZ.cell 3 _ rfl
      have s4 : Z.cell? ⟨x7, 4, none⟩ = some (.bool b5) := hkYZ.cell 4 _ rfl
      have t0 : Z.cell? ⟨x8, 0, none⟩ = some (.int .i64 b1) := hkZ.cell 0 _ rfl
      have t1 : Z.cell? ⟨x8, 1, none⟩ = some (.int .i64 b2) := hkZ.cell 1 _ rfl
      have t2 : Z.cell? ⟨x8, 2, none⟩ = some (.int .i64 b3) := hkZ.cell 2 _ rfl
      have t3 : Z.cell? ⟨x8, 3, none⟩ = some (.int .i64 b4) := hkZ.cell 3 _ rfl
      have t4 : Z.cell? ⟨x8, 4, none⟩ = some (.bool b5) := hkZ.cell 4 _ rfl
      have u7 := hkYZ.lt
      have u8 := hkZ.lt
      have hff : (fl != fl) = false := by simp
      have HWZ := hidden hWZ; have HZZ := hidden hZ; have HX8 := hidden hx8
      clear hb8 hbZ hkZ hkYZ hWZ hZ hx8 HRY y2 m1 m2 HKY HWY
      go_upto_region 10 with fail
      rw [← HZZ.out, ← HX8.out]
      go_quiet (fail)
      go_wp2_with fail
      go_roundw
      case rel => exact ⟨j + 1, by omega, by go_num, hidden (HWZ.out.trans ⟨rfl, rfl, rfl, Nat.le_refl _, fun _ _ => rfl⟩)⟩
      case measure => simp [intOf]; omega
    · obtain rfl : j = n := by omega
      have hji : ¬ (j : Int) < (j : Int) := by omega
      obtain ⟨C, hC⟩ : ∃ C, C = runC ws ⟨#[119, 48]⟩ [5] [7] 1000 := ⟨_, rfl⟩
      obtain ⟨V, hV⟩ : ∃ V, V = runK C (runD ws R.2.1.toNat ⟨#[119, 48]⟩ [5] [7] (1000 : Int).toNat) := ⟨_, rfl⟩
      have hlen := runK_len HA2.out.alk ⟨#[119, 48]⟩ [5] [7] 1000 R.2.1.toNat (by have := HA2.out.inv.v1; omega)
      rw [← hC, ← hV] at hlen
      obtain ⟨V1, V2, V3, V4, V5⟩ := V
      simp only at hlen
      have hrun : ∀ {b : Nat} {w' : World} {sv iv : Value}, KSys w' b R ws → InsAt w'.heap.size w' sv [5] → InsAt w'.heap.size w' iv [7] → Calls Tryz.prog 21 #[.pointer (some ⟨b, 0, none⟩), .string ⟨#[119, 48]⟩, sv, iv, .int .i64 1000] w' fun e w3 => ∃ (xa oa va : Option Addr) (xn xc on oc vn vc : Nat), e = .returned (.tuple #[.agg #[.slice xa xn xc, .slice oa on oc, .slice va vn vc, .int .i64 V1, .int .i64 V2], .int .i64 C]) ∧ OutK w'.heap.size w3 (.slice xa xn xc) (.slice oa on oc) (.slice va vn vc) V3 V4 V5 ∧ Below w'.heap.size w' w3 := fun {b w' sv iv} h h1 h2 => by
        have := keep_runAny h ⟨#[119, 48]⟩ 1000 h1 h2 (by simp) (by simp)
        rw [← hC, ← hV] at this
        exact this
      have HRUN : Hid (∀ {b : Nat} {w' : World} {sv iv : Value}, KSys w' b R ws → InsAt w'.heap.size w' sv [5] → InsAt w'.heap.size w' iv [7] → Calls Tryz.prog 21 #[.pointer (some ⟨b, 0, none⟩), .string ⟨#[119, 48]⟩, sv, iv, .int .i64 1000] w' fun e w3 => ∃ (xa oa va : Option Addr) (xn xc on oc vn vc : Nat), e = .returned (.tuple #[.agg #[.slice xa xn xc, .slice oa on oc, .slice va vn vc, .int .i64 V1, .int .i64 V2], .int .i64 C]) ∧ OutK w'.heap.size w3 (.slice xa xn xc) (.slice oa on oc) (.slice va vn vc) V3 V4 V5 ∧ Below w'.heap.size w' w3) := hidden hrun
      have HLEN := hidden hlen
      clear hC hV hlen hrun
      obtain ⟨q5, X1, hq5, hX1, hi5, hbX1, hs1⟩ := lay_int wr 5
      obtain ⟨q7, X2, hq7, hX2, hi7, hbX2, hs2⟩ := lay_int X1 7
      have hb2 := HW.out.trans ((hbX1.trans (hbX2.mono hbX1.size)).mono HW.out.size)
      have HR9 := hidden (HRUN.out (HA2.out.below hb2) ((hi5.below hbX2).mono hbX2.size) hi7)
      have HQ5 := hidden hq5; have HX1 := hidden hX1; have HX2 := hidden hX2
      have HQ7 : Hid (q5 + 1 = q7) := hidden (by rw [hq7]; exact hs1.symm)
      have HBX := hidden hb2
      clear hq5 hX1 hi5 hbX1 hs1 hq7 hX2 hi7 hbX2 hs2 hb2 HW
      go_wp2_with fail
      rw [← HX1.out, ← HQ5.out, HQ7.out, ← HX2.out]
      refine HR9.out.mono ?_
      rintro e w9 ⟨xa, oa, va, xn, xc, on, oc, vn, vc, rfl, ho9, hb9⟩
      obtain ⟨ob, Y9, hob, hY9, hk9, hbY9⟩ := lay_outc w9 #[.slice xa xn xc, .slice oa on oc, .slice va vn vc, .int .i64 V1, .int .i64 V2]
      obtain ⟨r5, Z1, hr5, hZ1, hi5, hbZ1, hs1⟩ := lay_int Y9 5
      obtain ⟨r7, Z2, hr7, hZ2, hi7, hbZ2, hs2⟩ := lay_int Z1 7
      have hbY := hb9.trans (hbY9.mono hb9.size)
      have hbZ := hbZ1.trans (hbZ2.mono hbZ1.size)
      have hb9Z := HBX.out.trans ((hbY.trans (hbZ.mono hbY.size)).mono HBX.out.size)
      have HO9 := hidden ((ho9.below hbY9).below hbZ)
      have HK9 := hidden (hk9.sub hbZ hk9.lt)
      have HR10 := hidden (HRUN.out (HB2.out.below hb9Z) ((hi5.below hbZ2).mono hbZ2.size) hi7)
      have HOB := hidden hob; have HY9 := hidden hY9; have HR5 := hidden hr5; have HZ1 := hidden hZ1; have HZ2 := hidden hZ2
      have HR7 : Hid (r5 + 1 = r7) := hidden (by rw [hr7]; exact hs1.symm)
      have HBZ := hidden hb9Z
      clear ho9 hb9 hob hY9 hk9 hbY9 hr5 hZ1 hi5 hbZ1 hs1 hr7 hZ2 hi7 hbZ2 hs2 hbY hbZ hb9Z HR9 HBX
      go_upto_region 13 with fail
      rw [← HY9.out, ← HOB.out]
      go_wp2_with fail
      rw [← HZ1.out, ← HR5.out, HR7.out, ← HZ2.out]
      refine HR10.out.mono ?_
      rintro e w10 ⟨xa', oa', va', xn', xc', on', oc', vn', vc', rfl, ho10, hb10⟩
      obtain ⟨pb, Y10, hpb, hY10, hk10, hbY10⟩ := lay_outc w10 #[.slice xa' xn' xc', .slice oa' on' oc', .slice va' vn' vc', .int .i64 V1, .int .i64 V2]
      have hbY := hb10.trans (hbY10.mono hb10.size)
      have HAL := hidden (keep_alike V1 V2 (HO9.out.below hbY) (ho10.below hbY10) HLEN.out.1 HLEN.out.2.1 HLEN.out.2.2)
      have HK9Y := hidden (HK9.out.sub hbY HK9.out.lt)
      have o0 : Y10.cell? ⟨ob, 0, none⟩ = some (.slice xa xn xc) := HK9Y.out.cell 0 _ rfl
      have o1 : Y10.cell? ⟨ob, 1, none⟩ = some (.slice oa on oc) := HK9Y.out.cell 1 _ rfl
      have o2 : Y10.cell? ⟨ob, 2, none⟩ = some (.slice va vn vc) := HK9Y.out.cell 2 _ rfl
      have o3 : Y10.cell? ⟨ob, 3, none⟩ = some (.int .i64 V1) := HK9Y.out.cell 3 _ rfl
      have o4 : Y10.cell? ⟨ob, 4, none⟩ = some (.int .i64 V2) := HK9Y.out.cell 4 _ rfl
      have p0 : Y10.cell? ⟨pb, 0, none⟩ = some (.slice xa' xn' xc') := hk10.cell 0 _ rfl
      have p1 : Y10.cell? ⟨pb, 1, none⟩ = some (.slice oa' on' oc') := hk10.cell 1 _ rfl
      have p2 : Y10.cell? ⟨pb, 2, none⟩ = some (.slice va' vn' vc') := hk10.cell 2 _ rfl
      have p3 : Y10.cell? ⟨pb, 3, none⟩ = some (.int .i64 V1) := hk10.cell 3 _ rfl
      have p4 : Y10.cell? ⟨pb, 4, none⟩ = some (.int .i64 V2) := hk10.cell 4 _ rfl
      have hol := HK9Y.out.lt
      have hpl := hk10.lt
      have HPB := hidden hpb; have HY10 := hidden hY10
      have HBY := hidden (HBZ.out.trans (hbY.mono HBZ.out.size))
      have hcc : (C == C) = true := by simp
      clear ho10 hb10 hpb hY10 hk10 hbY10 hbY HR10 HO9 HK9 HBZ HLEN HRUN
      go_upto_region 14 with fail
      rw [← HY10.out, ← HPB.out]
      go_wp2_with fail
      refine HAL.out.mono ?_
      rintro e w11 ⟨rfl, hb11⟩
      have HFIN := hidden (HBE.out.trans ((HBY.out.trans (hb11.mono HBY.out.size)).mono HBE.out.size))
      clear hb11 HAL o0 o1 o2 o3 o4 p0 p1 p2 p3 p4
      go_wp2_with fail
      go_ret
      exact ⟨rfl, HFIN.out⟩

end Go.Proofs.YtcphhbofjkenaaaGreatDoor

namespace Go.Proofs.YtcphhbofjkenaaaGreatDoor
open Go Go.RowKit
set_option linter.unusedVariables false
set_option linter.unusedSimpArgs false
attribute [local go_sem] quietG

structure LSys (lo : Nat) (w : World) (bb : Nat) (ev cv : Value) (R : List PE × Int × Int × List Int) : Prop where
  sys : PSys w bb ev cv R.1 R.2.1 R.2.2.1 R.2.2.2
  inv : LInv R.1 R.2.1 R.2.2.1 R.2.2.2
  tab : Tab w
  bas : lo ≤ bb
  rows : ∀ k, ev.ownBlock = some k → lo ≤ k
  cods : ∀ k, cv.ownBlock = some k → lo ≤ k
theorem LSys.below {lo : Nat} {w w' : World} {bb : Nat} {ev cv : Value} {R : List PE × Int × Int × List Int} (h : LSys lo w bb ev cv R) (hb : Below w.heap.size w w') : LSys lo w' bb ev cv R :=
  ⟨h.sys.below hb, h.inv, h.tab.below hb, h.bas, h.rows, h.cods⟩
def touch (bb : Nat) (ev cv : Value) (k : Nat) : Prop := k = bb ∨ ev.ownBlock = some k ∨ cv.ownBlock = some k
theorem LSys.touch_lo {lo : Nat} {w : World} {bb : Nat} {ev cv : Value} {R : List PE × Int × Int × List Int} (h : LSys lo w bb ev cv R) {k : Nat} (hk : touch bb ev cv k) : lo ≤ k := by
  rcases hk with rfl | e | e
  · exact h.bas
  · exact h.rows k e
  · exact h.cods k e
theorem LSys.touch_lt {lo : Nat} {w : World} {bb : Nat} {ev cv : Value} {R : List PE × Int × Int × List Int} (h : LSys lo w bb ev cv R) {k : Nat} (hk : touch bb ev cv k) : k < w.heap.size := by
  rcases hk with rfl | e | e
  · exact h.sys.blk.lt
  · exact own_lt h.sys.row e
  · exact own_lt h.sys.cod e
theorem LSys.load {lo : Nat} {w w' : World} {bb : Nat} {ev cv : Value} {R : List PE × Int × Int × List Int} {s : ByteArray} {e : Ending} (h : LSys lo w bb ev cv R) (hlo : lo ≤ w.heap.size) (hp : LoadPost w bb ev cv (loadR s R.1 R.2.1 R.2.2.1 R.2.2.2) e w') :
    e = .returned (.tuple #[.int .i64 (loadR s R.1 R.2.1 R.2.2.1 R.2.2.2).1.1, .int .i64 (loadR s R.1 R.2.1 R.2.2.1 R.2.2.2).1.2]) ∧ (∃ ev' cv', LSys lo w' bb ev' cv' (loadR s R.1 R.2.1 R.2.2.1 R.2.2.2).2 ∧ (∀ k, touch bb ev' cv' k → touch bb ev cv k ∨ w.heap.size ≤ k)) ∧ Chg (touch bb ev cv) w w' := by
  obtain ⟨h1, ⟨ev', cv', h2, h3, l1, l2⟩, h5, h6⟩ := hp
  refine ⟨h1, ⟨ev', cv', ⟨h2, h5, h3, h.bas, fun k hk => ?_, fun k hk => ?_⟩, fun k hk => ?_⟩, h6⟩
  · rcases l1 k hk with e | e
    · exact h.rows k e
    · omega
  · rcases l2 k hk with e | e
    · exact h.cods k e
    · omega
  · rcases hk with rfl | e | e
    · exact Or.inl (Or.inl rfl)
    · exact (l1 k e).imp (fun e => Or.inr (Or.inl e)) id
    · exact (l2 k e).imp (fun e => Or.inr (Or.inr e)) id
theorem LSys.chg {lo : Nat} {S : Nat → Prop} {w w' : World} {bb : Nat} {ev cv : Value} {R : List PE × Int × Int × List Int} (h : LSys lo w bb ev cv R) (hc : Chg S w w') (ht : Tab w') (hn : ∀ k, touch bb ev cv k → ¬ S k) : LSys lo w' bb ev cv R :=
  ⟨h.sys.chg hc (hn _ (Or.inl rfl)) (fun k hk => hn k (Or.inr (Or.inl hk))) (fun k hk => hn k (Or.inr (Or.inr hk))), h.inv, ht, h.bas, h.rows, h.cods⟩

theorem load_new2 {w w1 w2 : World} {bb : Nat} {s : ByteArray} {e : Ending} (h0 : w.heap.size ≤ bb) (hb : Below w.heap.size w w1) (hp : LoadPost w1 bb (.slice none 0 0) (.slice none 0 0) (loadR s [] 0 0 []) e w2) :
    e = .returned (.tuple #[.int .i64 (loadR s [] 0 0 []).1.1, .int .i64 (loadR s [] 0 0 []).1.2]) ∧ (∃ ev cv ws, LSys w.heap.size w2 bb ev cv (loadR s [] 0 0 []).2 ∧ Alk (loadR s [] 0 0 []).2.1 (loadR s [] 0 0 []).2.2.2.2 ws ∧ WsB ws) ∧ Below w.heap.size w w2 := by
  obtain ⟨h1, ⟨ev, cv, h2, h3, l1, l2⟩, h5, h6⟩ := hp
  obtain ⟨ws, a1, a2, _⟩ := load_ws s alk_nil LInv.zero wsOk_nil WsB.nil
  have hs := hb.size
  refine ⟨h1, ⟨ev, cv, ws, ⟨h2, h5, h3, h0, fun k hk => ?_, fun k hk => ?_⟩, a1, a2⟩, hb.trans (h6.toBelow hb.size fun b hbb e => ?_)⟩
  · rcases l1 k hk with e | e
    · simp [Value.ownBlock] at e
    · omega
  · rcases l2 k hk with e | e
    · simp [Value.ownBlock] at e
    · omega
  · rcases e with e | e | e
    · omega
    · simp [Value.ownBlock] at e
    · simp [Value.ownBlock] at e

def LoadedPost2 (w : World) (s : ByteArray) (e : Ending) (w' : World) : Prop := ∃ (bb : Nat) (ev cv : Value) (ws : List RW), e = .returned (.tuple #[.pointer (some ⟨bb, 0, none⟩), .bool ((loadR s [] 0 0 []).1.1 == 0)]) ∧ w.heap.size ≤ bb ∧ (LSys w.heap.size w' bb ev cv (loadR s [] 0 0 []).2 ∧ Alk (loadR s [] 0 0 []).2.1 (loadR s [] 0 0 []).2.2.2.2 ws ∧ WsB ws) ∧ Below w.heap.size w w'

set_option maxRecDepth 100000 in
set_option maxHeartbeats 4000000 in
theorem keep_loaded2 (w : World) (mb : Nat) {a : Option Addr} {nn c : Nat} {i : Int} {s : ByteArray} {k v : Int} {al : Bool} (hb : Blk w mb (mkC a nn c i s k v al) 34) (ht : Tab w) (hs : s.size ≤ 100000) :
    Calls Tryz.prog 15 #[.pointer (some ⟨mb, 0, none⟩)] w fun e w' => LoadedPost2 w s e w' := by
  have HT := hidden ht; have HB := hidden hb
  have HN := hidden (forth_new w ht)
  clear ht hb
  go_enter Tryz.func15, Tryz.ntmps15
  go_wp2_with fail
  refine HN.out.mono ?_
  rintro e w1 ⟨bb, hbb, rfl, hp, hb1⟩
  have HW := hidden (keep_works w1 (HT.out.below hb1))
  have HP := hidden hp; have HB1 := hidden hb1
  clear hp hb1 HN
  go_wp2_with fail
  refine HW.out.mono ?_
  rintro e w2 ⟨rfl, hb2⟩
  have hb12 := HB1.out.trans (hb2.mono HB1.out.size)
  have hbl := HB.out.sub hb12 HB.out.lt
  have c2 : w2.cell? ⟨mb, 2, none⟩ = some (.string s) := hbl.cell 2 _ rfl
  have hml := hbl.lt
  have HL := hidden (forth_load s (HP.out.below hb2) (HT.out.below hb12) (by omega) LInv.zero)
  have HB2 := hidden hb12
  clear hb2 hb12 hbl HW HP HB1
  go_wp2_with fail
  refine HL.out.mono ?_
  intro e w3 hpost
  obtain ⟨h1, ⟨ev, cv, ws, hK⟩, hb3⟩ := load_new2 hbb HB2.out hpost
  subst h1
  have HK := hidden hK; have HB3 := hidden hb3
  clear hpost hK hb3 HL HB2 c2
  obtain ⟨r1, hr1⟩ : ∃ r, r = (loadR s [] 0 0 []).1.1 := ⟨_, rfl⟩
  obtain ⟨r2, hr2⟩ : ∃ r, r = (loadR s [] 0 0 []).1.2 := ⟨_, rfl⟩
  rw [← hr1, ← hr2]
  have HR1 := hidden hr1
  clear hr1 hr2
  go_wp2_with fail
  exact bodyPost_ret (v := .tuple #[.pointer (some ⟨bb, 0, none⟩), .bool (r1 == 0)]) (by simp [results, Tryz.results15, go_sem]) rfl (show LoadedPost2 _ _ _ _ from ⟨bb, ev, cv, ws, by rw [HR1.out], hbb, HK.out, HB3.out⟩)
theorem pieces_two {s : ByteArray} (ht : TextOk s) {x : Int} (hx : CutP s x) (hok : (loadR s [] 0 0 []).1.1 = 0) :
    (loadR (s.extract 0 x.toNat) [] 0 0 []).1.1 = 0 ∧ loadR (s.extract x.toNat s.size) (loadR (s.extract 0 x.toNat) [] 0 0 []).2.1 (loadR (s.extract 0 x.toNat) [] 0 0 []).2.2.1 (loadR (s.extract 0 x.toNat) [] 0 0 []).2.2.2.1 (loadR (s.extract 0 x.toNat) [] 0 0 []).2.2.2.2 = loadR s [] 0 0 [] := by
  obtain ⟨m, rfl, hm, h | ⟨i, h1, h2, h3, rfl⟩⟩ := hx
  · subst h
    have e0 : s.extract 0 ((0 : Nat) : Int).toNat = ⟨#[]⟩ := ext_empty s 0
    have e1 : s.extract ((0 : Nat) : Int).toNat s.size = s := ByteArray.extract_zero_size
    have e2 : loadR ⟨#[]⟩ [] 0 0 [] = ((0, 0), [], 0, 0, []) := by kernel_rfl
    rw [e0, e1, e2]
    exact ⟨rfl, rfl⟩
  · rw [Int.toNat_natCast]
    exact load_two (ht.cut h1 h2 h3) ht.bytes [] 0 0 [] hok

end Go.Proofs.YtcphhbofjkenaaaGreatDoor
