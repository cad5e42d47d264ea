import Derived.Laws.BytesArg
import Derived.Test.YtcphhbofjkenaaaGreatDoorU31
namespace Go.Proofs.YtcphhbofjkenaaaGreatDoor
set_option maxRecDepth 100000
open Go Go.RowKit
set_option linter.unusedVariables false
set_option linter.unusedSimpArgs false
def I64 (n : Int) : Prop := -9223372036854775808 ≤ n ∧ n ≤ 9223372036854775807
def Gr0 (t : List UInt8) : Prop := ∀ b ∈ t, b ≠ 59 ∧ b ≠ 92 ∧ b < 128
def Grp (t : List UInt8) : Prop := t = [59] ∨ Gr0 t
theorem Gr0.of {t : List UInt8} (h : t.all (fun b => b != 59 && b != 92 && decide (b < 128)) = true) : Gr0 t := by
 intro b hb
 have := List.all_eq_true.mp h b hb
 simpa [and_assoc] using this
theorem Gr0.count {t : List UInt8} (h : Gr0 t) : t.count 59 = 0 := List.count_eq_zero.2 fun hm => (h 59 hm).1 rfl
theorem count_says (s t : ByteArray) : (s ++ t ++ ⟨#[32]⟩ : ByteArray).data.toList.count 59 = s.data.toList.count 59 + t.data.toList.count 59 := by
 simp [ByteArray.data_append, List.count_append]
def TextOk (s : ByteArray) : Prop := ∃ ts : List (List UInt8), (∀ t ∈ ts, Grp t) ∧ s.data.toList = (ts.map (· ++ [32])).flatten
theorem TextOk.nil : TextOk ⟨#[]⟩ := ⟨[], by simp, rfl⟩
theorem TextOk.says {s t : ByteArray} (h : TextOk s) (ht : Grp t.data.toList) : TextOk (s ++ t ++ ⟨#[32]⟩) := by
 obtain ⟨ts, h1, h2⟩ := h
 refine ⟨ts ++ [t.data.toList], fun x hx => ?_, ?_⟩
 ·rcases List.mem_append.mp hx with h | h
  ·exact h1 x h
  ·rw [List.mem_singleton.mp h]; exact ht
 ·simp [ByteArray.data_append, h2]
theorem keep_pick (c n : Int) (hc : I64 c) (h1 : 1 ≤ n) (h2 : n ≤ 2147483647) (w : World) :
  Calls Tryz.prog 17 #[.int .i64 c, .int .i64 n] w fun e w' => ∃ r : Int, e = .returned (.int .i64 r) ∧ 0 ≤ r ∧ r < n ∧ w' = w := by
 obtain ⟨c1, c2⟩ := hc
 by_cases hn : c < 0
 ·have hm1 : 0 ≤ (-(c + 1)) % n := Int.emod_nonneg _ (by omega)
  have hm2 : (-(c + 1)) % n < n := Int.emod_lt_of_pos _ (by omega)
  have hm3 : (-(c + 1)).tmod n = (-(c + 1)) % n := Int.tmod_eq_emod_of_nonneg (by omega)
  go_enter Tryz.func17, Tryz.ntmps17
  go_wp2_with fail
  go_ret
  exact ⟨_, rfl, hm1, hm2, rfl⟩
 ·have hm1 : 0 ≤ c % n := Int.emod_nonneg _ (by omega)
  have hm2 : c % n < n := Int.emod_lt_of_pos _ (by omega)
  have hm3 : c.tmod n = c % n := Int.tmod_eq_emod_of_nonneg (by omega)
  go_enter Tryz.func17, Tryz.ntmps17
  go_wp2_with fail
  go_ret
  exact ⟨_, rfl, hm1, hm2, rfl⟩
def IsD (s : ByteArray) (n : Int) : Prop := ∃ d : UInt8, s.data.toList = [d] ∧ d.toNat = 48 + n.toNat ∧ n.toNat < 10
theorem keep_digits2 (n : Int) (h0 : 0 ≤ n) (h1 : n < 10) (w : World) :
  Calls Tryz.prog 16 #[.int .i64 n] w fun e w' => ∃ s : ByteArray, e = .returned (.string s) ∧ (s.size = 1 ∧ s.data.toList.all (fun b => b != 59 && b != 92 && decide (b < 128)) = true ∧ IsD s n) ∧ Below w.heap.size w w' := by
 have hcv := run_convert_bytes_arg (P := Tryz.prog) (w.alloc (.cells #[.int .u8 (48 + n)] 5)) 93 5 Tryz.underlying93 Tryz.underlying5 w.heap.size 0 1 1 [48 + n] rfl (fun i hi => match i, hi with | 0, _ => (blk_new w #[.int .u8 (48 + n)] 5).cell 0 _ rfl) 9 Tryz.underlying9
 go_enter Tryz.func16, Tryz.ntmps16
 go_wp2_with fail
 go_ret
 exact ⟨_, rfl, ⟨by simp [strOfNums]; rfl, by
  have : n = 0 ∨ n = 1 ∨ n = 2 ∨ n = 3 ∨ n = 4 ∨ n = 5 ∨ n = 6 ∨ n = 7 ∨ n = 8 ∨ n = 9 := by omega
  rcases this with rfl | rfl | rfl | rfl | rfl | rfl | rfl | rfl | rfl | rfl <;> decide, by
  have : n = 0 ∨ n = 1 ∨ n = 2 ∨ n = 3 ∨ n = 4 ∨ n = 5 ∨ n = 6 ∨ n = 7 ∨ n = 8 ∨ n = 9 := by omega
  rcases this with rfl | rfl | rfl | rfl | rfl | rfl | rfl | rfl | rfl | rfl <;> exact ⟨_, rfl, by decide, by decide⟩⟩, (Below.refl _ _).alloc (Nat.le_refl _) _⟩
def mkC (a : Option Addr) (n c : Nat) (i : Int) (s : ByteArray) (k v : Int) (al : Bool) : Array Value := #[.slice a n c, .int .i64 i, .string s, .int .i64 k, .int .i64 v, .bool al]
theorem keep_says (w : World) (mb : Nat) (a : Option Addr) (n c : Nat) (i : Int) (s : ByteArray) (k v : Int) (al : Bool) (t : ByteArray) (hb : Blk w mb (mkC a n c i s k v al) 34) (hs : s.size ≤ 1000000) (ht : t.size ≤ 1000) :
  Calls Tryz.prog 38 #[.pointer (some ⟨mb, 0, none⟩), .string t] w fun e w' => e = .returned (.tuple #[]) ∧ (∃ s' : ByteArray, (s'.size = s.size + t.size + 1 ∧ s' = s ++ t ++ ⟨#[32]⟩) ∧ Blk w' mb (mkC a n c i s' k v al) 34) ∧ Chg (fun b => b = mb) w w' := by
 have c2 : w.cell? ⟨mb, 2, none⟩ = some (.string s) := hb.cell 2 _ rfl
 have f2 := hb.frozen 2
 go_enter Tryz.func38, Tryz.ntmps38
 go_wp2_with fail
 go_end0
 refine ⟨rfl, ⟨s ++ t ++ ⟨#[32]⟩, ?_, ?_⟩, (Chg.refl (fun b => b = mb) w).setCell (p := ⟨mb, 2, none⟩) rfl _⟩
 ·exact ⟨by simp [ByteArray.size_append]; rfl, rfl⟩
 ·have := hb.set (o := 2) (.string (s ++ t ++ ⟨#[32]⟩)); simpa [mkC] using this
section
attribute [local go_sem] quietG
theorem keep_next {B : Nat} (w : World) (mb : Nat) (a : Option Addr) (nn c : Nat) (i : Int) (s : ByteArray) (k v : Int) (al : Bool) (n : Int) (l : List Int) (hb : Blk w mb (mkC a nn c i s k v al) 34) (hr : InsAt B w (.slice a nn c) l) (hl : ∀ x ∈ l, I64 x) (hB : B ≤ mb) (hi : 0 ≤ i) (hil : l.length ≤ 17592186043904) (h1 : 1 ≤ n) (h2 : n ≤ 1000) :
  Calls Tryz.prog 37 #[.pointer (some ⟨mb, 0, none⟩), .int .i64 n] w fun e w' => ∃ r i' : Int, e = .returned (.int .i64 r) ∧ 0 ≤ r ∧ r < n ∧ 0 ≤ i' ∧ Blk w' mb (mkC a nn c i' s k v al) 34 ∧ Chg (fun b => b = mb) w w' := by
 have c0 : w.cell? ⟨mb, 0, none⟩ = some (.slice a nn c) := hb.cell 0 _ rfl
 have c1 : w.cell? ⟨mb, 1, none⟩ = some (.int .i64 i) := hb.cell 1 _ rfl
 have f1 := hb.frozen 1
 have hnn : nn = l.length := by
  rcases hr with ⟨rfl, a', c', e⟩ | ⟨pb, po, c', e, _⟩
  ·simp at e; simp [e]
  ·simp at e; exact e.2.1
 have hnl : (nn : Int) ≤ 17592186043904 := by omega
 have HB := hidden hb
 by_cases hge : (nn : Int) ≤ i
 ·have hd : decide ((nn : Int) ≤ i) = true := by simpa using hge
  clear hb hr hnn
  go_enter Tryz.func37, Tryz.ntmps37
  go_wp2_with fail
  go_quiet (fail)
  go_wp2_with fail
  go_ret
  exact ⟨0, i, rfl, Int.le_refl _, by omega, hi, HB.out, ⟨rfl, rfl, rfl, Nat.le_refl _, fun _ _ _ => rfl⟩⟩
 ·have hd : decide ((nn : Int) ≤ i) = false := by simpa using hge
  obtain ⟨j, hj⟩ : ∃ j : Nat, j = i.toNat := ⟨_, rfl⟩
  have hjl : j < l.length := by omega
  obtain ⟨pb, po, rfl, hpb, hx⟩ : ∃ pb po, a = some ⟨pb, po, none⟩ ∧ pb < B ∧ ∀ (j : Nat) (y : Int), l[j]? = some y → w.cell? ⟨pb, po + j, none⟩ = some (.int .i64 y) := by
   rcases hr with ⟨rfl, _⟩ | ⟨pb, po, c', e, _, h3, h4⟩
   ·simp at hjl
   ·simp at e; exact ⟨pb, po, e.1, h3, h4⟩
  have hxj := hx j l[j] (List.getElem?_eq_getElem hjl)
  have hxi := hl l[j] (List.getElem_mem hjl)
  have hne : pb ≠ mb := by omega
  generalize l[j] = x at hxj hxi
  rw [hj] at hxj
  have HP := hidden (fun w' => keep_pick x n hxi h1 (by omega) w')
  have hin : i < (nn : Int) := by omega
  have hpw : pb < w.heap.size := by have := hb.lt; omega
  have hwr : IntKind.i64.wrap i = i := by have hb64 : IntKind.i64.bits = 64 := rfl; simp [IntKind.wrap, hb64]; omega
  have him : i ≤ 17592186043904 := by omega
  clear hb hr hnn hx hxi hil hl hjl hge hB hpb hj j hnl
  go_enter Tryz.func37, Tryz.ntmps37
  go_wp2_with fail
  go_quiet (fail)
  go_upto_region 4 with fail
  obtain ⟨V, hV⟩ : ∃ V : World, V = (w.drewN nq).setCell ⟨mb, 1, none⟩ (.int .i64 (i + 1)) := ⟨_, rfl⟩
  have hbV : Blk V mb (mkC (some ⟨pb, po, none⟩) nn c (i + 1) s k v al) 34 := by
   rw [hV]
   have := Blk.set (w := w.drewN nq) HB.out (o := 1) (.int .i64 (i + 1)); simpa [mkC] using this
  have hcV : Chg (fun b => b = mb) w V := by
   rw [hV]
   exact (show Chg (fun b => b = mb) w (w.drewN nq) from ⟨rfl, rfl, rfl, Nat.le_refl _, fun _ _ _ => rfl⟩).setCell (p := ⟨mb, 1, none⟩) rfl _
  have d0 : V.cell? ⟨mb, 0, none⟩ = some (.slice (some ⟨pb, po, none⟩) nn c) := hbV.cell 0 _ rfl
  have d1 : V.cell? ⟨mb, 1, none⟩ = some (.int .i64 (i + 1)) := hbV.cell 1 _ rfl
  have dx : V.cell? ⟨pb, po + i.toNat, none⟩ = some (.int .i64 x) := by
   exact (hcV.cell (p := ⟨pb, po + i.toNat, none⟩) hpw hne).trans hxj
  rw [← hV]
  clear hV c0 c1 f1 hxj HB
  have HBV := hidden hbV; have HCV := hidden hcV
  have HC : Hid (V.drew.cell? ⟨mb, 0, none⟩ = some (.slice (some ⟨pb, po, none⟩) nn c) ∧ V.drew.cell? ⟨mb, 1, none⟩ = some (.int .i64 (i + 1)) ∧ V.drew.cell? ⟨pb, po + i.toNat, none⟩ = some (.int .i64 x)) := hidden ⟨d0, d1, dx⟩
  have k0 : ∀ u : {w' : World // w'.cell? ⟨mb, 0, none⟩ = some (.slice (some ⟨pb, po, none⟩) nn c) ∧ w'.cell? ⟨mb, 1, none⟩ = some (.int .i64 (i + 1)) ∧ w'.cell? ⟨pb, po + i.toNat, none⟩ = some (.int .i64 x)}, u.val.cell? ⟨mb, 0, none⟩ = some (.slice (some ⟨pb, po, none⟩) nn c) := fun u => u.property.1
  have k1 : ∀ u : {w' : World // w'.cell? ⟨mb, 0, none⟩ = some (.slice (some ⟨pb, po, none⟩) nn c) ∧ w'.cell? ⟨mb, 1, none⟩ = some (.int .i64 (i + 1)) ∧ w'.cell? ⟨pb, po + i.toNat, none⟩ = some (.int .i64 x)}, u.val.cell? ⟨mb, 1, none⟩ = some (.int .i64 (i + 1)) := fun u => u.property.2.1
  have k2 : ∀ u : {w' : World // w'.cell? ⟨mb, 0, none⟩ = some (.slice (some ⟨pb, po, none⟩) nn c) ∧ w'.cell? ⟨mb, 1, none⟩ = some (.int .i64 (i + 1)) ∧ w'.cell? ⟨pb, po + i.toNat, none⟩ = some (.int .i64 x)}, u.val.cell? ⟨pb, po + i.toNat, none⟩ = some (.int .i64 x) := fun u => u.property.2.2
  have hne : Nonempty {w' : World // w'.cell? ⟨mb, 0, none⟩ = some (.slice (some ⟨pb, po, none⟩) nn c) ∧ w'.cell? ⟨mb, 1, none⟩ = some (.int .i64 (i + 1)) ∧ w'.cell? ⟨pb, po + i.toNat, none⟩ = some (.int .i64 x)} := ⟨⟨V, d0, d1, dx⟩⟩
  clear hbV hcV d0 d1 dx
  refine wp_region_turns (C := OneOf fun w' => w'.cell? ⟨mb, 0, none⟩ = some (.slice (some ⟨pb, po, none⟩) nn c) ∧ w'.cell? ⟨mb, 1, none⟩ = some (.int .i64 (i + 1)) ∧ w'.cell? ⟨pb, po + i.toNat, none⟩ = some (.int .i64 x)) 13 [12] ⟨V.drew, HC.out⟩ (by kernel_rfl) (by kernel_rfl) rfl ?_
  rw [show List.range 13 = [0, 1, 2, 3, 4, 5, 6, 7, 8, 9, 10, 11, 12] from rfl]
  repeat (refine wpT_step rfl rfl (fun K hK => ?_); go_simp; refine hK _ ?_; clear hK K)
  refine wpT_call1 rfl rfl 17 #[.int .i64 x, .int .i64 n] (by go_simp) ((HP.out _).mono ?_)
  rintro e w2 ⟨r, rfl, r1, r2, rfl⟩
  refine ⟨_, rfl, HC.out, wpT_end ?_⟩
  intro w' hw'
  rw [show w' = V.drew from hw']
  clear hw' w' k0 k1 k2 hne
  simp only [List.drop_succ_cons, List.drop_zero]
  go_wp2_with fail
  go_ret
  exact ⟨r, i + 1, rfl, r1, r2, by omega, HBV.out, HCV.out.drew⟩
end
end Go.Proofs.YtcphhbofjkenaaaGreatDoor
namespace Go.Proofs.YtcphhbofjkenaaaGreatDoor
set_option maxRecDepth 100000
open Go Go.RowKit
set_option linter.unusedVariables false
set_option linter.unusedSimpArgs false
def evens : List ByteArray := [⟨#[110, 101, 103, 97, 116, 101]⟩, ⟨#[97, 98, 115]⟩, ⟨#[48, 61]⟩, ⟨#[100, 117, 112, 32, 43]⟩, ⟨#[100, 117, 112, 32, 42]⟩, ⟨#[49, 32, 43]⟩, ⟨#[51, 32, 45]⟩, ⟨#[55, 32, 109, 111, 100]⟩, ⟨#[50, 32, 47]⟩, ⟨#[100, 117, 112, 32, 111, 117, 116]⟩, ⟨#[53, 32, 115, 119, 97, 112, 32, 45]⟩, ⟨#[49, 32, 111, 118, 101, 114, 32, 43, 32, 110, 105, 112]⟩, ⟨#[100, 117, 112, 32, 100, 117, 112, 32, 114, 111, 116, 32, 100, 114, 111, 112, 32, 109, 97, 120]⟩, ⟨#[51, 32, 116, 117, 99, 107, 32, 42, 32, 109, 105, 110]⟩, ⟨#[45, 49, 32, 120, 111, 114]⟩, ⟨#[54, 32, 111, 114, 32, 53, 32, 97, 110, 100]⟩, ⟨#[100, 117, 112, 32, 50, 32, 60, 32, 45]⟩]
def others : List ByteArray := [⟨#[105, 110, 32, 43]⟩, ⟨#[100, 117, 112, 32, 51, 32, 33]⟩, ⟨#[49, 32, 64, 32, 43]⟩, ⟨#[100, 117, 112, 32, 48, 32, 33]⟩, ⟨#[48, 32, 64, 32, 109, 97, 120]⟩, ⟨#[100, 117, 112, 32, 57, 32, 109, 111, 100, 32, 64, 32, 43]⟩]
theorem evens_small : ∀ (k : Nat), k < 17 → ∃ t, (evens.map Value.string)[k]? = some (.string t) ∧ t.size ≤ 20 ∧ Gr0 t.data.toList ∧ t ∈ evens := by
 intro k hk
 have h : ∀ k, k < 17 → (((evens[k]?).map ByteArray.size).getD 99 ≤ 20 ∧ ((evens[k]?).map fun t => t.data.toList.all (fun b => b != 59 && b != 92 && decide (b < 128))).getD false = true) := by decide +kernel
 have := h k hk
 have hl : evens.length = 17 := rfl
 rw [List.getElem?_eq_getElem (by omega)] at this
 exact ⟨evens[k], by rw [List.getElem?_map, List.getElem?_eq_getElem (by omega)]; rfl, this.1, Gr0.of this.2, List.getElem_mem _⟩
theorem others_small : ∀ (k : Nat), k < 6 → ∃ t, (others.map Value.string)[k]? = some (.string t) ∧ t.size ≤ 20 ∧ Gr0 t.data.toList ∧ t ∈ others := by
 intro k hk
 have h : ∀ k, k < 6 → (((others[k]?).map ByteArray.size).getD 99 ≤ 20 ∧ ((others[k]?).map fun t => t.data.toList.all (fun b => b != 59 && b != 92 && decide (b < 128))).getD false = true) := by decide +kernel
 have := h k hk
 have hl : others.length = 6 := rfl
 rw [List.getElem?_eq_getElem (by omega)] at this
 exact ⟨others[k], by rw [List.getElem?_map, List.getElem?_eq_getElem (by omega)]; rfl, this.1, Gr0.of this.2, List.getElem_mem _⟩
inductive St
 | out
 | inn (fs : List Nat)
inductive Gstep (al : Bool) : St → List UInt8 → St → Prop
 | var (d : UInt8) (h : 48 ≤ d.toNat ∧ d.toNat ≤ 57) : Gstep al .out [118, 97, 114, 105, 97, 98, 108, 101, 32, 118, d] .out
 | colon (d : UInt8) (h : 48 ≤ d.toNat ∧ d.toNat ≤ 57) : Gstep al .out [58, 32, 119, d] (.inn [])
 | even {fs : List Nat} {t : ByteArray} (h : t ∈ evens) : Gstep al (.inn fs) t.data.toList (.inn fs)
 | other {fs : List Nat} {t : ByteArray} (ha : al = false) (h : t ∈ others) : Gstep al (.inn fs) t.data.toList (.inn fs)
 | word {fs : List Nat} (d : UInt8) (h : 48 ≤ d.toNat ∧ d.toNat ≤ 57) : Gstep al (.inn fs) [119, d] (.inn fs)
 | iff {fs : List Nat} : Gstep al (.inn fs) [100, 117, 112, 32, 51, 32, 62, 32, 105, 102] (.inn (0 :: fs))
 | els {fs : List Nat} : Gstep al (.inn (0 :: fs)) [101, 108, 115, 101] (.inn (1 :: fs))
 | thn0 {fs : List Nat} : Gstep al (.inn (0 :: fs)) [116, 104, 101, 110] (.inn fs)
 | thn1 {fs : List Nat} : Gstep al (.inn (1 :: fs)) [116, 104, 101, 110] (.inn fs)
 | doo {fs : List Nat} (d e : UInt8) (h : 48 ≤ d.toNat ∧ d.toNat ≤ 57) (h2 : 48 ≤ e.toNat ∧ e.toNat ≤ 57) : Gstep al (.inn fs) [d, 32, e, 32, 100, 111] (.inn (2 :: fs))
 | loop {fs : List Nat} : Gstep al (.inn (2 :: fs)) [105, 32, 43, 32, 108, 111, 111, 112] (.inn fs)
 | semi : Gstep al (.inn []) [59] .out
inductive Tx (al : Bool) : St → List (List UInt8) → Prop
 | nil : Tx al .out []
 | snoc {st st' : St} {gs : List (List UInt8)} {g : List UInt8} (h : Tx al st gs) (hg : Gstep al st g st') : Tx al st' (gs ++ [g])
def TextG (al : Bool) (st : St) (s : ByteArray) : Prop := TextOk s ∧ ∃ gs, Tx al st gs ∧ s.data.toList = (gs.map (· ++ [32])).flatten
theorem TextG.nil {al : Bool} : TextG al .out ⟨#[]⟩ := ⟨.nil, [], .nil, rfl⟩
theorem TextG.says {al : Bool} {st st' : St} {s t : ByteArray} (h : TextG al st s) (hg : Gstep al st t.data.toList st') (ht : Grp t.data.toList) : TextG al st' (s ++ t ++ ⟨#[32]⟩) := by
 obtain ⟨h0, gs, h1, h2⟩ := h
 exact ⟨h0.says ht, gs ++ [t.data.toList], h1.snoc hg, by simp [ByteArray.data_append, h2]⟩
theorem isD_rng {s : ByteArray} {n : Int} (h : IsD s n) : ∃ d : UInt8, s.data.toList = [d] ∧ 48 ≤ d.toNat ∧ d.toNat ≤ 57 := by
 obtain ⟨d, h1, h2, h3⟩ := h
 exact ⟨d, h1, by omega, by omega⟩
def MK (B mb : Nat) (a : Option Addr) (nn c : Nat) (l : List Int) (k v : Int) (al : Bool) (st : St) (q : Nat) (L : Nat) (w0 w : World) : Prop :=
 ∃ (i : Int) (s : ByteArray), 0 ≤ i ∧ (s.size ≤ L ∧ TextG al st s ∧ s.data.toList.count 59 ≤ q) ∧ Blk w mb (mkC a nn c i s k v al) 34 ∧ InsAt B w (.slice a nn c) l ∧ (∀ x ∈ l, I64 x) ∧ B ≤ mb ∧ l.length ≤ 17592186043904 ∧ (0 ≤ k ∧ k ≤ 4) ∧ Chg (fun b => b = mb) w0 w
section
variable {B mb : Nat} {a : Option Addr} {nn c : Nat} {l : List Int} {k v : Int} {al : Bool} {st st' : St} {q : Nat} {L : Nat} {w0 w : World}
theorem InsAt.chg {S : Nat → Prop} {w' : World} {iv : Value} (h : InsAt B w iv l) (hc : Chg S w w') (hB : B ≤ w.heap.size) (hs : ∀ b, b < B → ¬ S b) : InsAt B w' iv l := h.below (hc.toBelow hB hs)
theorem MK.lt (h : MK B mb a nn c l k v al st q L w0 w) : mb < w.heap.size := by
 obtain ⟨i, s, h1, h2, h3, _⟩ := h
 exact h3.lt
theorem MK.more (h : MK B mb a nn c l k v al st q L w0 w) {L' : Nat} (hL : L ≤ L') : MK B mb a nn c l k v al st q L' w0 w := by
 obtain ⟨i, s, h1, h2, r⟩ := h
 exact ⟨i, s, h1, ⟨by omega, h2.2⟩, r⟩
theorem MK.chg {w' : World} (h : MK B mb a nn c l k v al st q L w0 w) {i' : Int} {s' : ByteArray} {L' q' : Nat} (hi : 0 ≤ i') (hs : s'.size ≤ L' ∧ TextG al st' s' ∧ s'.data.toList.count 59 ≤ q') (hb : Blk w' mb (mkC a nn c i' s' k v al) 34) (hc : Chg (fun b => b = mb) w w') : MK B mb a nn c l k v al st' q' L' w0 w' := by
 obtain ⟨i, s, h1, h2, h3, h4, h5, h6, h7, h8, h9⟩ := h
 exact ⟨i', s', hi, hs, hb, h4.chg hc (Nat.le_of_lt (Nat.lt_of_le_of_lt h6 h3.lt)) (fun b hb e => by omega), h5, h6, h7, h8, h9.trans hc⟩
theorem MK.below {w' : World} (h : MK B mb a nn c l k v al st q L w0 w) (hb : Below w.heap.size w w') : MK B mb a nn c l k v al st q L w0 w' := by
 have h' := h
 obtain ⟨i, s, h1, h2, h3, _⟩ := h
 exact h'.chg h1 h2 (h3.sub hb h3.lt) (Chg.ofBelow hb)
theorem mk_next (h : MK B mb a nn c l k v al st q L w0 w) (n : Int) (h1 : 1 ≤ n) (h2 : n ≤ 1000) :
  Calls Tryz.prog 37 #[.pointer (some ⟨mb, 0, none⟩), .int .i64 n] w fun e w' => ∃ r : Int, e = .returned (.int .i64 r) ∧ 0 ≤ r ∧ r < n ∧ MK B mb a nn c l k v al st q L w0 w' ∧ Chg (fun b => b = mb) w w' := by
 have h' := h
 obtain ⟨i, s, i0, s1, hb, hr, hl, hB, hil, _⟩ := h
 refine (keep_next w mb a nn c i s k v al n l hb hr hl hB i0 hil h1 h2).mono ?_
 rintro e w' ⟨r, i', rfl, r1, r2, r3, r4, r5⟩
 exact ⟨r, rfl, r1, r2, h'.chg r3 s1 r4 r5, r5⟩
theorem mk_says (h : MK B mb a nn c l k v al st q L w0 w) (t : ByteArray) (hg : Gstep al st t.data.toList st') (hL : L ≤ 900000) (ht : t.size ≤ 100) (hn : Gr0 t.data.toList) {L' : Nat} (hL' : L + t.size + 1 ≤ L') :
  Calls Tryz.prog 38 #[.pointer (some ⟨mb, 0, none⟩), .string t] w fun e w' => e = .returned (.tuple #[]) ∧ MK B mb a nn c l k v al st' q L' w0 w' := by
 have h' := h
 obtain ⟨i, s, i0, s1, hb, _⟩ := h
 refine (keep_says w mb a nn c i s k v al t hb (by omega) (by omega)).mono ?_
 rintro e w' ⟨rfl, ⟨s', ⟨r1, rs⟩, r2⟩, r3⟩
 exact ⟨rfl, h'.chg i0 ⟨by omega, by rw [rs]; exact s1.2.1.says hg (.inr hn), by rw [rs, count_says, hn.count]; exact s1.2.2⟩ r2 r3⟩
theorem mk_semi (h : MK B mb a nn c l k v al (.inn []) q L w0 w) (hL : L ≤ 900000) :
  Calls Tryz.prog 38 #[.pointer (some ⟨mb, 0, none⟩), .string ⟨#[59]⟩] w fun e w' => e = .returned (.tuple #[]) ∧ MK B mb a nn c l k v al .out (q + 1) (L + 2) w0 w' := by
 have h' := h
 obtain ⟨i, s, i0, s1, hb, _⟩ := h
 refine (keep_says w mb a nn c i s k v al ⟨#[59]⟩ hb (by omega) (by decide)).mono ?_
 rintro e w' ⟨rfl, ⟨s', ⟨r1, rs⟩, r2⟩, r3⟩
 have h1 : (⟨#[59]⟩ : ByteArray).size = 1 := rfl
 have h2 : (⟨#[59]⟩ : ByteArray).data.toList.count 59 = 1 := rfl
 exact ⟨rfl, h'.chg i0 ⟨by omega, by rw [rs]; exact s1.2.1.says .semi (.inl rfl), by rw [rs, count_says, h2]; have := s1.2.2; omega⟩ r2 r3⟩
theorem mk_digits (h : MK B mb a nn c l k v al st q L w0 w) (n : Int) (h0 : 0 ≤ n) (h1 : n < 10) :
  Calls Tryz.prog 16 #[.int .i64 n] w fun e w' => ∃ s : ByteArray, e = .returned (.string s) ∧ (s.size = 1 ∧ s.data.toList.all (fun b => b != 59 && b != 92 && decide (b < 128)) = true ∧ IsD s n) ∧ MK B mb a nn c l k v al st q L w0 w' := by
 refine (keep_digits2 n h0 h1 w).mono ?_
 rintro e w' ⟨s, rfl, r1, r2⟩
 exact ⟨s, rfl, r1, h.below r2⟩
theorem mk_even (h : MK B mb a nn c l k v al st q L w0 w) :
  Calls Tryz.prog 71 #[.pointer (some ⟨mb, 0, none⟩)] w fun e w' => ∃ t : ByteArray, e = .returned (.string t) ∧ (t.size ≤ 20 ∧ Gr0 t.data.toList ∧ t ∈ evens) ∧ MK B mb a nn c l k v al st q L w0 w' := by
 obtain ⟨X, hX⟩ : ∃ X : World, X = w.alloc (.cells #[.string ⟨#[110, 101, 103, 97, 116, 101]⟩, .string ⟨#[97, 98, 115]⟩, .string ⟨#[48, 61]⟩, .string ⟨#[100, 117, 112, 32, 43]⟩, .string ⟨#[100, 117, 112, 32, 42]⟩, .string ⟨#[49, 32, 43]⟩, .string ⟨#[51, 32, 45]⟩, .string ⟨#[55, 32, 109, 111, 100]⟩, .string ⟨#[50, 32, 47]⟩, .string ⟨#[100, 117, 112, 32, 111, 117, 116]⟩, .string ⟨#[53, 32, 115, 119, 97, 112, 32, 45]⟩, .string ⟨#[49, 32, 111, 118, 101, 114, 32, 43, 32, 110, 105, 112]⟩, .string ⟨#[100, 117, 112, 32, 100, 117, 112, 32, 114, 111, 116, 32, 100, 114, 111, 112, 32, 109, 97, 120]⟩, .string ⟨#[51, 32, 116, 117, 99, 107, 32, 42, 32, 109, 105, 110]⟩, .string ⟨#[45, 49, 32, 120, 111, 114]⟩, .string ⟨#[54, 32, 111, 114, 32, 53, 32, 97, 110, 100]⟩, .string ⟨#[100, 117, 112, 32, 50, 32, 60, 32, 45]⟩] 9 (0, 0)) := ⟨_, rfl⟩
 obtain ⟨g, hg⟩ : ∃ g, g = w.heap.size := ⟨_, rfl⟩
 have hbX : Below w.heap.size w X := by rw [hX]; exact (Below.refl _ _).alloc (Nat.le_refl _) _
 have hrX : ∀ (j : Nat) (u : Value), (evens.map Value.string)[j]? = some u → X.cell? ⟨g, j, none⟩ = some u := fun j u hu => by
  rw [hX, hg]
  exact (blk_new w _ _).cell j u (by rw [← Array.getElem?_toList]; exact hu)
 have hgX : g < X.heap.size := by rw [hX, hg]; simp
 have hgm : g ≠ mb := by have := h.lt; omega
 have HN := hidden (mk_next (h.below hbX) 17 (by omega) (by omega))
 have HX := hidden hX; have HR := hidden hrX; have HG := hidden hg
 clear h hX hrX hbX hg
 go_enter Tryz.func71, Tryz.ntmps71
 go_upto_region 1 with fail
 go_wp2_with fail
 rw [← HX.out, ← HG.out]
 refine HN.out.mono ?_
 rintro e w1 ⟨r, rfl, r1, r2, hM, hc⟩
 obtain ⟨t, ht, htl⟩ := evens_small r.toNat (by omega)
 have hx : w1.cell? ⟨g, r.toNat, none⟩ = some (.string t) := (hc.cell (p := ⟨g, r.toNat, none⟩) hgX hgm).trans (HR.out _ _ ht)
 have HM := hidden hM
 clear hM hc ht HN HX HR HG
 go_wp2_with fail
 go_ret
 exact ⟨t, rfl, htl, HM.out⟩
end
def sumT : ByteArray := ⟨#[58, 32, 115, 117, 109, 32, 48, 32, 53, 32, 49, 32, 100, 111, 32, 105, 32, 43, 32, 108, 111, 111, 112, 32, 111, 117, 116, 32, 59]⟩
def sumN : ByteArray := ⟨#[115, 117, 109]⟩
theorem sum_load : (loadR sumT [] 0 0 []).1 = (0, 0) := by decide +kernel
theorem sum_nv : (loadR sumT [] 0 0 []).2.2.1 = 0 := by decide +kernel
theorem sum_find : findRes (lastP (loadR sumT [] 0 0 []).2.1 sumN (loadR sumT [] 0 0 []).2.1.length) = .tuple #[.agg #[.int .i64 0, .int .i64 0, .int .i64 3, .int .i64 18, .bool true], .int .i64 0] := by kernel_rfl
theorem sum_start : startOf (lastP (loadR sumT [] 0 0 []).2.1 sumN (loadR sumT [] 0 0 []).2.1.length) = some 0 := by decide +kernel
theorem sum_run : (runM (loadR sumT [] 0 0 []).2.2.2.2 100 0 ⟨[], [], [], 0⟩ ⟨[], [], []⟩).1 = 18 ∧ (runM (loadR sumT [] 0 0 []).2.2.2.2 100 0 ⟨[], [], [], 0⟩ ⟨[], [], []⟩).2.1 = 0 ∧ (runM (loadR sumT [] 0 0 []).2.2.2.2 100 0 ⟨[], [], [], 0⟩ ⟨[], [], []⟩).2.2.2.outs = [10] := by decide +kernel
theorem alk_nil : Alk [] [] [] := ⟨⟨rfl, fun k x y h => by simp at h⟩, Coded.nil⟩
theorem wsOk_nil : WsOk [] := fun x hx => by simp at hx
structure KSys (w : World) (bb : Nat) (R : List PE × Int × Int × List Int) (ws : List RW) : Prop where
 sys : ∃ ev cv, PSys w bb ev cv R.1 R.2.1 R.2.2.1 R.2.2.2
 inv : LInv R.1 R.2.1 R.2.2.1 R.2.2.2
 alk : Alk R.1 R.2.2.2 ws
 wsb : WsB ws
 tab : Tab w
theorem KSys.below {w w' : World} {bb : Nat} {R : List PE × Int × Int × List Int} {ws : List RW} (h : KSys w bb R ws) (hb : Below w.heap.size w w') : KSys w' bb R ws :=
 ⟨h.sys.imp fun ev h => h.imp fun cv h => h.below hb, h.inv, h.alk, h.wsb, h.tab.below hb⟩
theorem load_new {w w1 w2 : World} {bb : Nat} {s : ByteArray} {e : Ending} (h0 : w.heap.size ≤ bb) (hb : Below w.heap.size w w1) (hp : LoadPost w1 bb (.slice none 0 0) (.slice none 0 0) (loadR s [] 0 0 []) e w2) :
  e = .returned (.tuple #[.int .i64 (loadR s [] 0 0 []).1.1, .int .i64 (loadR s [] 0 0 []).1.2]) ∧ (∃ ws, KSys w2 bb (loadR s [] 0 0 []).2 ws) ∧ Below w.heap.size w w2 := by
 obtain ⟨h1, ⟨ev, cv, h2, h3, _⟩, h5, h6⟩ := hp
 obtain ⟨ws, a1, a2, _⟩ := load_ws s alk_nil LInv.zero wsOk_nil WsB.nil
 refine ⟨h1, ⟨ws, ⟨ev, cv, h2⟩, h5, a1, a2, h3⟩, hb.trans (h6.toBelow hb.size fun b hbb e => ?_)⟩
 rcases e with e | e | e
 ·omega
 ·simp [Value.ownBlock] at e
 ·simp [Value.ownBlock] at e
theorem keep_run {w : World} {bb : Nat} {R : List PE × Int × Int × List Int} {ws : List RW} {sv iv : Value} {st ins : List Int} (h : KSys w bb R ws) (x : ByteArray) (f : Int) (hs : InsAt w.heap.size w sv st) (hj : InsAt w.heap.size w iv ins) (h0 : (findI ws x).2 = 0) (hm : mayR st ins f = true) (hl2 : ins.length ≤ 17592186043904) :
  Calls Tryz.prog 21 #[.pointer (some ⟨bb, 0, none⟩), .string x, sv, iv, .int .i64 f] w fun e w' => ∃ (xa oa va : Option Addr) (xn xc on oc vn vc : Nat), e = .returned (.tuple #[.agg #[.slice xa xn xc, .slice oa on oc, .slice va vn vc, .int .i64 (runD ws R.2.1.toNat x st ins f.toNat).1, .int .i64 (runD ws R.2.1.toNat x st ins f.toNat).2.1], .int .i64 0]) ∧
   OutK w.heap.size w' (.slice xa xn xc) (.slice oa on oc) (.slice va vn vc) (runD ws R.2.1.toNat x st ins f.toNat).2.2.1.reverse (runD ws R.2.1.toNat x st ins f.toNat).2.2.2.outs (runD ws R.2.1.toNat x st ins f.toNat).2.2.2.vars ∧ xn = (runD ws R.2.1.toNat x st ins f.toNat).2.2.1.length ∧ Below w.heap.size w w' := by
 obtain ⟨ev, cv, hsys⟩ := h.sys
 have hm' := hm
 simp only [mayR, Bool.and_eq_true, decide_eq_true_eq] at hm'
 refine (forth_runD x f hsys h.inv h.tab h.alk hs hj (Nat.le_refl _) (by omega) hl2).mono ?_
 rintro e w' ⟨hp, hb⟩
 have hc : runC ws x st ins f = 0 := by unfold runC; rw [if_neg (by omega), if_pos hm]
 rcases hp with ⟨hne, _⟩ | ⟨_, xv, ov, vv, rfl, hro⟩
 ·exact absurd hc hne
 ·obtain ⟨xa, xc, rfl, _, _⟩ := row_shape hro.s
  obtain ⟨oa, on, oc, rfl⟩ := irow_shape hro.o
  obtain ⟨va, vn, vc, rfl⟩ := irow_shape hro.v
  exact ⟨xa, oa, va, _, xc, on, oc, vn, vc, rfl, ⟨hro.s, hro.o, hro.v⟩, by simp, hb⟩
section
attribute [local go_sem] quietG
set_option maxHeartbeats 4000000 in
theorem keep_works (w : World) (ht : Tab w) : Calls Tryz.prog 40 #[] w fun e w' => e = .returned (.bool true) ∧ Below w.heap.size w w' := by
 have HT := hidden ht
 have HN := hidden (forth_new w ht)
 clear ht
 go_enter Tryz.func40, Tryz.ntmps40
 go_wp2_with fail
 refine HN.out.mono ?_
 rintro e w1 ⟨bb, hbb, rfl, hp, hb1⟩
 have HL := hidden (forth_load sumT hp (HT.out.below hb1) (by decide) LInv.zero)
 have HB1 := hidden hb1
 clear hp hb1 HN
 go_wp2_with fail
 refine (show Calls _ _ #[.pointer (some ⟨bb, 0, none⟩), .string ⟨#[58, 32, 115, 117, 109, 32, 48, 32, 53, 32, 49, 32, 100, 111, 32, 105, 32, 43, 32, 108, 111, 111, 112, 32, 111, 117, 116, 32, 59]⟩] _ _ from HL.out).mono ?_
 intro e w2 hpost
 obtain ⟨h1, ⟨ws, hK⟩, hb2⟩ := load_new hbb HB1.out hpost
 rw [sum_load] at h1
 simp only at h1
 subst h1
 have HK := hidden hK; have HB2 := hidden hb2
 obtain ⟨ev, cv, hsys⟩ := hK.sys
 have HF := hidden (forth_find sumN hsys (by have := hK.inv.l; omega))
 clear hpost hK hb2 HL HB1 hsys
 go_wp2_with fail
 refine (show Calls _ _ #[.pointer (some ⟨bb, 0, none⟩), .string ⟨#[115, 117, 109]⟩] _ _ from HF.out).mono ?_
 rintro e w3 ⟨rfl, hb3⟩
 rw [sum_find]
 obtain ⟨fb, hfb⟩ : ∃ fb, fb = w3.heap.size := ⟨_, rfl⟩
 obtain ⟨Y, hY⟩ : ∃ Y : World, Y = w3.alloc (.cells #[.int .i64 0, .int .i64 0, .int .i64 3, .int .i64 18, .bool true] 36 (0, 0)) := ⟨_, rfl⟩
 have hbY : Below w3.heap.size w3 Y := by rw [hY]; exact (Below.refl _ _).alloc (Nat.le_refl _) _
 have hkY : Blk Y fb #[.int .i64 0, .int .i64 0, .int .i64 3, .int .i64 18, .bool true] 36 := by rw [hY, hfb]; exact blk_new w3 _ _
 have HY := hidden hY; have HFB := hidden hfb; have HKY := hidden hkY
 have hb4 : Below w2.heap.size w2 Y := hb3.trans (hbY.mono hb3.size)
 have HKS := hidden (HK.out.below hb4)
 have HB4 := hidden (HB2.out.trans (hb4.mono HB2.out.size))
 clear hfb hY hbY hkY hb3 hb4 HF HK HB2
 go_upto_region 6 with fail
 rw [← HY.out, ← HFB.out]
 have q0 : Y.cell? ⟨fb, 0, none⟩ = some (.int .i64 0) := HKY.out.cell 0 _ rfl
 have q1 : Y.cell? ⟨fb, 1, none⟩ = some (.int .i64 0) := HKY.out.cell 1 _ rfl
 have q2 : Y.cell? ⟨fb, 2, none⟩ = some (.int .i64 3) := HKY.out.cell 2 _ rfl
 have q3 : Y.cell? ⟨fb, 3, none⟩ = some (.int .i64 18) := HKY.out.cell 3 _ rfl
 have q4 : Y.cell? ⟨fb, 4, none⟩ = some (.bool true) := HKY.out.cell 4 _ rfl
 have hfl := HKY.out.lt
 have hN : (findI ws sumN).2 = 0 := by
  have := find_eq HKS.out.alk.toAlike sumN
  rw [sum_find] at this
  simp at this
  exact this.2.symm
 have hm : mayR [] [] 100 = true := by decide
 have HRN := hidden (keep_run (sv := .slice none 0 0) (iv := .slice none 0 0) HKS.out sumN 100 (Or.inl ⟨rfl, none, 0, rfl⟩) (Or.inl ⟨rfl, none, 0, rfl⟩) hN hm (by simp))
 obtain ⟨p, e4, m1, m2, m3, m4, m5, m6⟩ := runD_runM HKS.out.alk hN hm (loadR sumT [] 0 0 []).2.2.1.toNat
 rw [sum_start] at e4
 obtain rfl : p = 0 := by simpa using e4.symm
 rw [sum_nv] at m1 m2 m3
 obtain ⟨s1, s2, s3⟩ := sum_run
 have d1 : (runD ws (loadR sumT [] 0 0 []).2.2.1.toNat sumN [] [] (100 : Int).toNat).1 = 18 := by rw [sum_nv, ← m1]; exact s1
 have d2 : (runD ws (loadR sumT [] 0 0 []).2.2.1.toNat sumN [] [] (100 : Int).toNat).2.1 = 0 := by rw [sum_nv, ← m2]; exact s2
 have d3 : (runD ws (loadR sumT [] 0 0 []).2.2.1.toNat sumN [] [] (100 : Int).toNat).2.2.2.outs = [10] := by rw [sum_nv, ← m3]; exact s3
 rw [d1, d2, d3, show ((18 : Nat) : Int) = 18 from rfl] at HRN
 clear e4 m1 m2 m3 m4 m5 m6 s1 s2 s3 d1 d2 d3 hN hm
 go_wp2_with fail
 refine (show Calls _ _ #[.pointer (some ⟨bb, 0, none⟩), .string ⟨#[115, 117, 109]⟩, .slice none 0 0, .slice none 0 0, .int .i64 100] _ _ from HRN.out).mono ?_
 rintro e w4 ⟨xa, oa, va, xn, xc, on, oc, vn, vc, rfl, ho, hxn, hb4⟩
 clear hxn
 obtain ⟨g, cap, hv, _, hg, _, _, hcc⟩ := row_cells ho.o (by decide)
 obtain ⟨rfl, rfl, rfl⟩ : oa = some ⟨g, 0, none⟩ ∧ on = 1 ∧ oc = cap := by simpa using hv
 have cg : w4.cell? ⟨g, 0, none⟩ = some (.int .i64 10) := hcc 0 _ rfl
 obtain ⟨ob, hob⟩ : ∃ ob, ob = w4.heap.size := ⟨_, rfl⟩
 obtain ⟨Z, hZ⟩ : ∃ Z : World, Z = w4.alloc (.cells #[.slice xa xn xc, .slice (some ⟨g, 0, none⟩) 1 oc, .slice va vn vc, .int .i64 18, .int .i64 0] 43 (0, 0)) := ⟨_, rfl⟩
 have hbZ : Below w4.heap.size w4 Z := by rw [hZ]; exact (Below.refl _ _).alloc (Nat.le_refl _) _
 have hkZ : Blk Z ob #[.slice xa xn xc, .slice (some ⟨g, 0, none⟩) 1 oc, .slice va vn vc, .int .i64 18, .int .i64 0] 43 := by rw [hZ, hob]; exact blk_new w4 _ _
 have z1 : Z.cell? ⟨ob, 1, none⟩ = some (.slice (some ⟨g, 0, none⟩) 1 oc) := hkZ.cell 1 _ rfl
 have z3 : Z.cell? ⟨ob, 3, none⟩ = some (.int .i64 18) := hkZ.cell 3 _ rfl
 have z4 : Z.cell? ⟨ob, 4, none⟩ = some (.int .i64 0) := hkZ.cell 4 _ rfl
 have zg : Z.cell? ⟨g, 0, none⟩ = some (.int .i64 10) := (hbZ.cell (p := ⟨g, 0, none⟩) hg).trans cg
 have hgZ : g < Z.heap.size := Nat.lt_of_lt_of_le hg hbZ.size
 have hoZ := hkZ.lt
 have HZ := hidden hZ; have HOB := hidden hob
 have HFIN := hidden (HB4.out.trans ((hb4.trans (hbZ.mono hb4.size)).mono HB4.out.size))
 clear ho hb4 hv hcc cg hob hZ hbZ hkZ q0 q1 q2 q3 q4 HRN HKS HKY hg
 go_upto_region 9 with fail
 rw [← HZ.out, ← HOB.out]
 go_wp2_with fail
 go_ret
 exact ⟨rfl, HFIN.out⟩
end
end Go.Proofs.YtcphhbofjkenaaaGreatDoor
namespace Go.Proofs.YtcphhbofjkenaaaGreatDoor
set_option maxRecDepth 100000
open Go Go.RowKit
set_option linter.unusedVariables false
set_option linter.unusedSimpArgs false
theorem mk_words {B mb : Nat} {a : Option Addr} {nn c : Nat} {l : List Int} {k v : Int} {al : Bool} {st : St} {q : Nat} {L : Nat} {w0 w : World} (h : MK B mb a nn c l k v al st q L w0 w) : w.cell? ⟨mb, 3, none⟩ = some (.int .i64 k) ∧ 0 ≤ k ∧ k ≤ 4 := by
 obtain ⟨i, s, _, _, h3, _, _, _, _, h8, _⟩ := h
 exact ⟨h3.cell 3 _ rfl, h8⟩
theorem mk_alone {B mb : Nat} {a : Option Addr} {nn c : Nat} {l : List Int} {k v : Int} {al : Bool} {st : St} {q : Nat} {L : Nat} {w0 w : World} (h : MK B mb a nn c l k v al st q L w0 w) : w.cell? ⟨mb, 5, none⟩ = some (.bool al) := by
 obtain ⟨i, s, _, _, h3, _⟩ := h
 exact h3.cell 5 _ rfl
def BodySaid (B mb : Nat) (a : Option Addr) (nn c : Nat) (l : List Int) (k v : Int) (al : Bool) (fs : List Nat) (q : Nat) (dd : Int) (G : Nat) : Prop :=
 ∀ (L : Nat) (w0 w : World), MK B mb a nn c l k v al (.inn fs) q L w0 w → L + 4 * G ≤ 800000 → Calls Tryz.prog 39 #[.pointer (some ⟨mb, 0, none⟩), .int .i64 dd] w fun e w' => e = .returned (.tuple #[]) ∧ MK B mb a nn c l k v al (.inn fs) q (L + 4 * G) w0 w'
set_option maxHeartbeats 8000000 in
theorem mk_body {B mb : Nat} {a : Option Addr} {nn c : Nat} {l : List Int} {k v : Int} {al : Bool} {fs : List Nat} {q : Nat} (dd : Int) (G : Nat) (hd : 0 ≤ dd) (hd2 : dd ≤ 10) (hG : 25 ≤ G) (hrec : 0 < dd → ∃ G', (∀ fs, BodySaid B mb a nn c l k v al fs q (dd - 1) G') ∧ 25 + 8 * G' ≤ G) : BodySaid B mb a nn c l k v al fs q dd G := by
 intro L w0 w h hL
 have HREC := hidden hrec
 have HN := hidden (mk_next h 4 (by omega) (by omega))
 clear h hrec
 have HL := hidden hL; have HG := hidden hG
 clear hL hG
 go_enter Tryz.func39, Tryz.ntmps39
 go_wp2_with fail
 refine HN.out.mono ?_
 rintro e w1 ⟨n, rfl, n0, n4, hM, hc⟩
 have HM := hidden hM
 clear hM hc HN
 go_wp2_with fail
 go_loopw [5] (fun i wr => ∃ j : Int, 0 ≤ j ∧ j ≤ 1 + n ∧ i = .int .i64 j ∧ Hid (MK B mb a nn c l k v al (.inn fs) q (L + j.toNat * G) w0 wr)) (fun i _ => 5 - (intOf i).toNat)
 case atStart => exact ⟨0, Int.le_refl _, by omega, rfl, hidden (by simpa using HM.out)⟩
 case round =>
  clear HM
  obtain ⟨j, hj0, hj1, rfl, HM⟩ := hrel
  by_cases hlt : j < 1 + n
  ·obtain ⟨M, hMM⟩ : ∃ M, M = L + j.toNat * G := ⟨_, rfl⟩
   have HMM : Hid (L + (j + 1).toNat * G = M + G ∧ M + G ≤ 800000) := by
    have h1 : (j + 1).toNat * G = j.toNat * G + G := by rw [show (j + 1).toNat = j.toNat + 1 by omega, Nat.succ_mul]
    have h2 : (j + 1).toNat * G ≤ 4 * G := Nat.mul_le_mul_right G (by omega)
    have := HL.out
    exact hidden ⟨by omega, by omega⟩
   rw [← hMM] at HM
   have HN := hidden (mk_next HM.out 8 (by omega) (by omega))
   clear HM hMM
   go_wp2_with fail
   refine HN.out.mono ?_
   rintro e w2 ⟨r, rfl, r0, r8, hM, hc⟩
   have HM2 := hidden hM
   clear hM hc HN
   by_cases hr1 : r = 1
   ·subst hr1
    by_cases hpos : 0 < dd
    ·obtain ⟨G', hbs, hgg⟩ := HREC.out hpos
     have HBS := hidden hbs; have HGG := hidden hgg
     clear hbs hgg
     go_wp2_with fail
     refine (mk_says HM2.out ⟨#[100, 117, 112, 32, 51, 32, 62, 32, 105, 102]⟩ .iff (by have := HMM.out.2; have := HG.out; have := HGG.out; omega) (by first | decide | omega) (Gr0.of rfl) (L' := M + 11) (by first | exact Nat.le_refl _ | omega)).mono ?_
     rintro e wHA3 ⟨rfl, h⟩
     have HA3 := hidden h
     clear h
     go_wp2_with fail
     refine (HBS.out _ _ _ _ HA3.out (by have := HMM.out.2; have := HG.out; have := HGG.out; omega)).mono ?_
     rintro e wHA4 ⟨rfl, h⟩
     have HA4 := hidden h
     clear h
     go_wp2_with fail
     refine (mk_next HA4.out 2 (by omega) (by omega)).mono ?_
     rintro e wHA5 ⟨z, rfl, z0, zn, h, _⟩
     have HA5 := hidden h
     clear h
     by_cases hq : z = 1
     ·subst hq
      go_wp2_with fail
      refine (mk_says HA5.out ⟨#[101, 108, 115, 101]⟩ .els (by have := HMM.out.2; have := HG.out; have := HGG.out; omega) (by first | decide | omega) (Gr0.of rfl) (L' := M + 11 + 4 * G' + 5) (by first | exact Nat.le_refl _ | omega)).mono ?_
      rintro e wHA6 ⟨rfl, h⟩
      have HA6 := hidden h
      clear h
      go_wp2_with fail
      refine (HBS.out _ _ _ _ HA6.out (by have := HMM.out.2; have := HG.out; have := HGG.out; omega)).mono ?_
      rintro e wHA7 ⟨rfl, h⟩
      have HA7 := hidden h
      clear h
      go_wp2_with fail
      refine (mk_says HA7.out ⟨#[116, 104, 101, 110]⟩ .thn1 (by have := HMM.out.2; have := HG.out; have := HGG.out; omega) (by first | decide | omega) (Gr0.of rfl) (L' := M + 11 + 4 * G' + 5 + 4 * G' + 5) (by first | exact Nat.le_refl _ | omega)).mono ?_
      rintro e wHA8 ⟨rfl, h⟩
      have HA8 := hidden h
      clear h
      go_wp2_with fail
      go_roundw
      case rel => exact ⟨j + 1, by omega, by omega, by go_num, hidden (by rw [HMM.out.1]; exact HA8.out.more (by have := HMM.out.2; have := HG.out; have := HGG.out; omega))⟩
      case measure => simp [intOf]; omega
     ·go_wp2_with fail
      refine (mk_says HA5.out ⟨#[116, 104, 101, 110]⟩ .thn0 (by have := HMM.out.2; have := HG.out; have := HGG.out; omega) (by first | decide | omega) (Gr0.of rfl) (L' := M + 11 + 4 * G' + 5) (by first | exact Nat.le_refl _ | omega)).mono ?_
      rintro e wHA6 ⟨rfl, h⟩
      have HA6 := hidden h
      clear h
      go_wp2_with fail
      go_roundw
      case rel => exact ⟨j + 1, by omega, by omega, by go_num, hidden (by rw [HMM.out.1]; exact HA6.out.more (by have := HMM.out.2; have := HG.out; have := HGG.out; omega))⟩
      case measure => simp [intOf]; omega
    ·go_wp2_with fail
     refine (mk_even HM2.out).mono ?_
     rintro e w3 ⟨t, rfl, htl, h⟩
     have HM3 := hidden h
     clear h
     go_wp2_with fail
     refine (mk_says HM3.out t (.even htl.2.2) (by have := HMM.out.2; have := HG.out; omega) (by omega) htl.2.1 (L' := M + 25) (by omega)).mono ?_
     rintro e wHM4 ⟨rfl, h⟩
     have HM4 := hidden h
     clear h
     go_wp2_with fail
     go_roundw
     case rel => exact ⟨j + 1, by omega, by omega, by go_num, hidden (by rw [HMM.out.1]; exact HM4.out.more (by have := HMM.out.2; have := HG.out; omega))⟩
     case measure => simp [intOf]; omega
   ·by_cases hr2 : r = 2
    ·subst hr2
     by_cases hpos : 0 < dd
     ·obtain ⟨G', hbs, hgg⟩ := HREC.out hpos
      have HBS := hidden hbs; have HGG := hidden hgg
      clear hbs hgg
      go_wp2_with fail
      refine (mk_next HM2.out 4 (by omega) (by omega)).mono ?_
      rintro e wHB3 ⟨f, rfl, f0, fn, h, _⟩
      have HB3 := hidden h
      clear h
      go_wp2_with fail
      refine (mk_next HB3.out 4 (by omega) (by omega)).mono ?_
      rintro e wHB4 ⟨g, rfl, g0, gn, h, _⟩
      have HB4 := hidden h
      clear h
      go_wp2_with fail
      refine (mk_digits HB4.out (f + g) (by omega) (by omega)).mono ?_
      rintro e wHB5 ⟨s, rfl, s1, h⟩
      have HB5 := hidden h
      clear h
      go_wp2_with fail
      refine (mk_digits HB5.out (f) (by omega) (by omega)).mono ?_
      rintro e wHB6 ⟨t, rfl, t1, h⟩
      have HB6 := hidden h
      clear h
      go_wp2_with fail
      have hsz : (s ++ ⟨#[32]⟩ ++ t ++ ⟨#[32, 100, 111]⟩ : ByteArray).size = 6 := by
       simp only [ByteArray.size_append, s1.1, t1.1]; rfl
      have hgr : Gr0 (s ++ ⟨#[32]⟩ ++ t ++ ⟨#[32, 100, 111]⟩ : ByteArray).data.toList := Gr0.of (by simp only [ByteArray.data_append, Array.toList_append, List.all_append, s1.2.1, t1.2.1]; rfl)
      have hgs : Gstep al (.inn fs) (s ++ ⟨#[32]⟩ ++ t ++ ⟨#[32, 100, 111]⟩ : ByteArray).data.toList (.inn (2 :: fs)) := by
       obtain ⟨d, d1, d2⟩ := isD_rng s1.2.2
       obtain ⟨d', d1', d2'⟩ := isD_rng t1.2.2
       simp only [ByteArray.data_append, Array.toList_append, d1, d1']
       exact .doo d d' d2 d2'
      generalize (s ++ ⟨#[32]⟩ ++ t ++ ⟨#[32, 100, 111]⟩ : ByteArray) = x at hsz hgr hgs ⊢
      refine (mk_says HB6.out x hgs (by have := HMM.out.2; have := HG.out; have := HGG.out; omega) (by omega) hgr (L' := M + 7) (by omega)).mono ?_
      rintro e w7 ⟨rfl, h⟩
      have HB7 := hidden h
      clear h
      go_wp2_with fail
      refine (HBS.out _ _ _ _ HB7.out (by have := HMM.out.2; have := HG.out; have := HGG.out; omega)).mono ?_
      rintro e wHB8 ⟨rfl, h⟩
      have HB8 := hidden h
      clear h
      go_wp2_with fail
      refine (mk_says HB8.out ⟨#[105, 32, 43, 32, 108, 111, 111, 112]⟩ .loop (by have := HMM.out.2; have := HG.out; have := HGG.out; omega) (by first | decide | omega) (Gr0.of rfl) (L' := M + 7 + 4 * G' + 9) (by first | exact Nat.le_refl _ | omega)).mono ?_
      rintro e wHB9 ⟨rfl, h⟩
      have HB9 := hidden h
      clear h
      go_wp2_with fail
      go_roundw
      case rel => exact ⟨j + 1, by omega, by omega, by go_num, hidden (by rw [HMM.out.1]; exact HB9.out.more (by have := HMM.out.2; have := HG.out; have := HGG.out; omega))⟩
      case measure => simp [intOf]; omega
     ·go_wp2_with fail
      refine (mk_even HM2.out).mono ?_
      rintro e w3 ⟨t, rfl, htl, h⟩
      have HM3 := hidden h
      clear h
      go_wp2_with fail
      refine (mk_says HM3.out t (.even htl.2.2) (by have := HMM.out.2; have := HG.out; omega) (by omega) htl.2.1 (L' := M + 25) (by omega)).mono ?_
      rintro e wHM4 ⟨rfl, h⟩
      have HM4 := hidden h
      clear h
      go_wp2_with fail
      go_roundw
      case rel => exact ⟨j + 1, by omega, by omega, by go_num, hidden (by rw [HMM.out.1]; exact HM4.out.more (by have := HMM.out.2; have := HG.out; omega))⟩
      case measure => simp [intOf]; omega
    ·by_cases hr3 : r = 3
     ·subst hr3
      have ck := (mk_words HM2.out).1
      by_cases hpos : 0 < k
      ·have ck := (mk_words HM2.out).1
       have ck4 := (mk_words HM2.out).2
       go_wp2_with fail
       refine (mk_next HM2.out k (by omega) (by omega)).mono ?_
       rintro e wHC3 ⟨f, rfl, f0, fn, h, _⟩
       have HC3 := hidden h
       clear h
       go_wp2_with fail
       refine (mk_digits HC3.out (f) (by omega) (by omega)).mono ?_
       rintro e wHC4 ⟨s, rfl, s1, h⟩
       have HC4 := hidden h
       clear h
       go_wp2_with fail
       have hsz : (⟨#[119]⟩ ++ s : ByteArray).size = 2 := by
        simp only [ByteArray.size_append, s1.1]; rfl
       have hgr : Gr0 (⟨#[119]⟩ ++ s : ByteArray).data.toList := Gr0.of (by simp only [ByteArray.data_append, Array.toList_append, List.all_append, s1.2.1]; rfl)
       have hgs : Gstep al (.inn fs) (⟨#[119]⟩ ++ s : ByteArray).data.toList (.inn fs) := by
        obtain ⟨d, d1, d2⟩ := isD_rng s1.2.2
        simp only [ByteArray.data_append, Array.toList_append, d1]
        exact .word d d2
       generalize (⟨#[119]⟩ ++ s : ByteArray) = x at hsz hgr hgs ⊢
       refine (mk_says HC4.out x hgs (by have := HMM.out.2; have := HG.out; omega) (by omega) hgr (L' := M + 25) (by omega)).mono ?_
       rintro e w7 ⟨rfl, h⟩
       have HC5 := hidden h
       clear h
       go_wp2_with fail
       go_roundw
       case rel => exact ⟨j + 1, by omega, by omega, by go_num, hidden (by rw [HMM.out.1]; exact HC5.out.more (by have := HMM.out.2; have := HG.out; omega))⟩
       case measure => simp [intOf]; omega
      ·go_wp2_with fail
       refine (mk_even HM2.out).mono ?_
       rintro e w3 ⟨t, rfl, htl, h⟩
       have HM3 := hidden h
       clear h
       go_wp2_with fail
       refine (mk_says HM3.out t (.even htl.2.2) (by have := HMM.out.2; have := HG.out; omega) (by omega) htl.2.1 (L' := M + 25) (by omega)).mono ?_
       rintro e wHM4 ⟨rfl, h⟩
       have HM4 := hidden h
       clear h
       go_wp2_with fail
       go_roundw
       case rel => exact ⟨j + 1, by omega, by omega, by go_num, hidden (by rw [HMM.out.1]; exact HM4.out.more (by have := HMM.out.2; have := HG.out; omega))⟩
       case measure => simp [intOf]; omega
     ·by_cases hr4 : r = 4
      ·subst hr4
       cases al with
       | false =>
        have cal : w2.cell? ⟨mb, 5, none⟩ = some (.bool false) := mk_alone HM2.out
        obtain ⟨X, hX⟩ : ∃ X : World, X = w2.alloc (.cells #[.string ⟨#[105, 110, 32, 43]⟩, .string ⟨#[100, 117, 112, 32, 51, 32, 33]⟩, .string ⟨#[49, 32, 64, 32, 43]⟩, .string ⟨#[100, 117, 112, 32, 48, 32, 33]⟩, .string ⟨#[48, 32, 64, 32, 109, 97, 120]⟩, .string ⟨#[100, 117, 112, 32, 57, 32, 109, 111, 100, 32, 64, 32, 43]⟩] 9 (0, 0)) := ⟨_, rfl⟩
        obtain ⟨g, hg⟩ : ∃ g, g = w2.heap.size := ⟨_, rfl⟩
        have hbX : Below w2.heap.size w2 X := by rw [hX]; exact (Below.refl _ _).alloc (Nat.le_refl _) _
        have hrX : ∀ (j : Nat) (u : Value), (others.map Value.string)[j]? = some u → X.cell? ⟨g, j, none⟩ = some u := fun j u hu => by
         rw [hX, hg]
         exact (blk_new w2 _ _).cell j u (by rw [← Array.getElem?_toList]; exact hu)
        have hgX : g < X.heap.size := by rw [hX, hg]; simp
        have hgm : g ≠ mb := by have := HM2.out.lt; omega
        have HNN := hidden (mk_next (HM2.out.below hbX) 6 (by omega) (by omega))
        have HX := hidden hX; have HR := hidden hrX; have HGE := hidden hg
        clear hX hrX hbX hg
        go_wp2_with fail
        rw [← HX.out, ← HGE.out]
        refine HNN.out.mono ?_
        rintro e w3 ⟨f, rfl, f1, f2, hM, hc⟩
        obtain ⟨t, ht, htl⟩ := others_small f.toNat (by omega)
        have hx : w3.cell? ⟨g, f.toNat, none⟩ = some (.string t) := (hc.cell (p := ⟨g, f.toNat, none⟩) hgX hgm).trans (HR.out _ _ ht)
        have HM3 := hidden hM
        clear hM hc ht HNN HX HR HGE
        go_wp2_with fail
        refine (mk_says HM3.out t (.other rfl htl.2.2) (by have := HMM.out.2; have := HG.out; omega) (by omega) htl.2.1 (L' := M + 25) (by omega)).mono ?_
        rintro e wHM4 ⟨rfl, h⟩
        have HM4 := hidden h
        clear h
        go_wp2_with fail
        go_roundw
        case rel => exact ⟨j + 1, by omega, by omega, by go_num, hidden (by rw [HMM.out.1]; exact HM4.out.more (by have := HMM.out.2; have := HG.out; omega))⟩
        case measure => simp [intOf]; omega
       | true =>
        have cal : w2.cell? ⟨mb, 5, none⟩ = some (.bool true) := mk_alone HM2.out
        go_wp2_with fail
        refine (mk_even HM2.out).mono ?_
        rintro e w3 ⟨t, rfl, htl, h⟩
        have HM3 := hidden h
        clear h
        go_wp2_with fail
        refine (mk_says HM3.out t (.even htl.2.2) (by have := HMM.out.2; have := HG.out; omega) (by omega) htl.2.1 (L' := M + 25) (by omega)).mono ?_
        rintro e wHM4 ⟨rfl, h⟩
        have HM4 := hidden h
        clear h
        go_wp2_with fail
        go_roundw
        case rel => exact ⟨j + 1, by omega, by omega, by go_num, hidden (by rw [HMM.out.1]; exact HM4.out.more (by have := HMM.out.2; have := HG.out; omega))⟩
        case measure => simp [intOf]; omega
      ·go_wp2_with fail
       refine (mk_even HM2.out).mono ?_
       rintro e w3 ⟨t, rfl, htl, h⟩
       have HM3 := hidden h
       clear h
       go_wp2_with fail
       refine (mk_says HM3.out t (.even htl.2.2) (by have := HMM.out.2; have := HG.out; omega) (by omega) htl.2.1 (L' := M + 25) (by omega)).mono ?_
       rintro e wHM4 ⟨rfl, h⟩
       have HM4 := hidden h
       clear h
       go_wp2_with fail
       go_roundw
       case rel => exact ⟨j + 1, by omega, by omega, by go_num, hidden (by rw [HMM.out.1]; exact HM4.out.more (by have := HMM.out.2; have := HG.out; omega))⟩
       case measure => simp [intOf]; omega
  ·go_wp2_with fail
   go_end0
   refine ⟨rfl, HM.out.more ?_⟩
   have : j.toNat * G ≤ 4 * G := Nat.mul_le_mul_right G (by omega)
   omega
section
variable {B mb : Nat} {a : Option Addr} {nn c : Nat} {l : List Int} {k v : Int} {al : Bool} {st : St} {q : Nat} {L : Nat} {w0 w : World}
theorem mk_vars (h : MK B mb a nn c l k v al st q L w0 w) : w.cell? ⟨mb, 4, none⟩ = some (.int .i64 v) := by
 obtain ⟨i, s, _, _, h3, _⟩ := h
 exact h3.cell 4 _ rfl
theorem mk_free (h : MK B mb a nn c l k v al st q L w0 w) (o : Nat) : w.frozen? ⟨mb, o, none⟩ = false := by
 obtain ⟨i, s, _, _, h3, _⟩ := h
 exact h3.frozen o
theorem MK.setV (h : MK B mb a nn c l k v al st q L w0 w) (v' : Int) : MK B mb a nn c l k v' al st q L w0 (w.setCell ⟨mb, 4, none⟩ (.int .i64 v')) := by
 obtain ⟨i, s, h1, h2, h3, h4, h5, h6, h7, h8, h9⟩ := h
 have hb := h3.set (o := 4) (.int .i64 v')
 have hc : Chg (fun b => b = mb) w (w.setCell ⟨mb, 4, none⟩ (.int .i64 v')) := (Chg.refl (fun b => b = mb) w).setCell (p := ⟨mb, 4, none⟩) rfl _
 exact ⟨i, s, h1, h2, by simpa [mkC] using hb, h4.chg hc (Nat.le_of_lt (Nat.lt_of_le_of_lt h6 h3.lt)) (fun b hb e => by omega), h5, h6, h7, h8, h9.trans hc⟩
theorem MK.setK (h : MK B mb a nn c l k v al st q L w0 w) (k' : Int) (hk : 0 ≤ k' ∧ k' ≤ 4) : MK B mb a nn c l k' v al st q L w0 (w.setCell ⟨mb, 3, none⟩ (.int .i64 k')) := by
 obtain ⟨i, s, h1, h2, h3, h4, h5, h6, h7, h8, h9⟩ := h
 have hb := h3.set (o := 3) (.int .i64 k')
 have hc : Chg (fun b => b = mb) w (w.setCell ⟨mb, 3, none⟩ (.int .i64 k')) := (Chg.refl (fun b => b = mb) w).setCell (p := ⟨mb, 3, none⟩) rfl _
 exact ⟨i, s, h1, h2, by simpa [mkC] using hb, h4.chg hc (Nat.le_of_lt (Nat.lt_of_le_of_lt h6 h3.lt)) (fun b hb e => by omega), h5, h6, h7, hk, h9.trans hc⟩
theorem MK.moreq {q' L' : Nat} (h : MK B mb a nn c l k v al st q L w0 w) (hq : q ≤ q') (hL : L ≤ L') : MK B mb a nn c l k v al st q' L' w0 w := by
 obtain ⟨i, s, h1, h2, r⟩ := h
 exact ⟨i, s, h1, ⟨by omega, h2.2.1, by omega⟩, r⟩
theorem mk_body2 {fs : List Nat} : BodySaid B mb a nn c l k v al fs q 2 1825 :=
 mk_body 2 1825 (by omega) (by omega) (by omega) (fun _ => ⟨225, (fun fs => mk_body 1 225 (by omega) (by omega) (by omega) (fun _ => ⟨25, (fun fs => mk_body 0 25 (by omega) (by omega) (by omega) (fun h => absurd h (by omega))), by omega⟩)), by omega⟩)
end
def MadePostG (w : World) (a : Option Addr) (nn c : Nat) (al : Bool) (e : Ending) (w' : World) : Prop := ∃ (mb : Nat) (i : Int) (s : ByteArray) (k v : Int), e = .returned (.pointer (some ⟨mb, 0, none⟩)) ∧ w.heap.size ≤ mb ∧ 1 ≤ k ∧ k ≤ 4 ∧ s.size ≤ 100000 ∧ TextG al .out s ∧ s.data.toList.count 59 ≤ 4 ∧ Blk w' mb (mkC a nn c i s k v al) 34 ∧ Below w.heap.size w w'
set_option maxHeartbeats 8000000 in
theorem mk_madeG {B : Nat} (w : World) (a : Option Addr) (nn c : Nat) (l : List Int) (al : Bool) (hr : InsAt B w (.slice a nn c) l) (hl : ∀ x ∈ l, I64 x) (hB : B ≤ w.heap.size) (hil : l.length ≤ 17592186043904) :
  Calls Tryz.prog 14 #[.slice a nn c, .bool al] w fun e w' => MadePostG w a nn c al e w' := by
 obtain ⟨mb, hmb⟩ : ∃ mb, mb = w.heap.size := ⟨_, rfl⟩
 obtain ⟨X, hX⟩ : ∃ X : World, X = w.alloc (.cells (mkC a nn c 0 ⟨#[]⟩ 0 0 al) 34 (0, 0)) := ⟨_, rfl⟩
 have hbX : Below w.heap.size w X := by rw [hX]; exact (Below.refl _ _).alloc (Nat.le_refl _) _
 have hkX : Blk X mb (mkC a nn c 0 ⟨#[]⟩ 0 0 al) 34 := by rw [hX, hmb]; exact blk_new w _ _
 have hMX : MK B mb a nn c l 0 0 al .out 0 0 X X := ⟨0, _, Int.le_refl _, ⟨Nat.le_refl _, .nil, Nat.le_refl _⟩, hkX, hr.below (hbX.mono hB), hl, by omega, hil, ⟨by omega, by omega⟩, Chg.refl _ _⟩
 have HMB := hidden hmb; have HMX := hidden hMX
 have HFIN : Hid (∀ w', Chg (fun b => b = mb) X w' → Below w.heap.size w w') := hidden fun w' hc => hbX.trans (hc.toBelow hbX.size (fun b hb e => by omega))
 have HX : Hid (X = w.alloc (.cells #[.slice a nn c, .int .i64 0, .string ⟨#[]⟩, .int .i64 0, .int .i64 0, .bool al] 34 (0, 0))) := hidden hX
 clear hX hmb hbX hkX hMX hr hl
 go_enter Tryz.func14, Tryz.ntmps14
 go_upto_region 2 with fail
 rw [← HX.out, ← HMB.out]
 cases al
 case' false =>
  obtain ⟨al', hal⟩ : ∃ x : Bool, x = false := ⟨_, rfl⟩
  go_wp2_with fail
  refine (mk_next HMX.out 5 (by omega) (by omega)).mono ?_
  rintro e w1 ⟨v, rfl, v0, v5, h, _⟩
  have f4 := mk_free h 4
  have c4 := mk_vars h
  have HM1 : Hid (MK B mb a nn c l 0 v al' .out 0 0 X (w1.setCell ⟨mb, 4, none⟩ (.int .i64 v))) := by rw [hal]; exact hidden (h.setV v)
  clear h HMX
  go_wp2_with fail
  obtain ⟨W, hW⟩ : ∃ W : World, W = w1.setCell ⟨mb, 4, none⟩ (.int .i64 v) := ⟨_, rfl⟩
  rw [← hW] at HM1 ⊢
  have HAL : Hid (false = al') := hidden hal.symm
  clear hW f4 c4 hal
 case' true =>
  obtain ⟨al', hal⟩ : ∃ x : Bool, x = true := ⟨_, rfl⟩
  go_wp2_with fail
  obtain ⟨W, hW⟩ : ∃ W : World, W = X := ⟨_, rfl⟩
  obtain ⟨v, hv⟩ : ∃ v : Int, v = 0 := ⟨_, rfl⟩
  have HM1 : Hid (MK B mb a nn c l 0 v al' .out 0 0 X W) := by rw [hv, hW, hal]; exact HMX
  have v0 : 0 ≤ v := by omega
  have v5 : v < 5 := by omega
  have HW : Hid (X = W) := hidden hW.symm
  have HAL : Hid (true = al') := hidden hal.symm
  clear hv HMX hal
  rw [← hW]
  clear hW
 all_goals
  go_loopw [6] (fun i wr => ∃ j : Int, 0 ≤ j ∧ j ≤ v ∧ i = .int .i64 j ∧ Hid (MK B mb a nn c l 0 v al' .out 0 (j.toNat * 12) X wr)) (fun i _ => 5 - (intOf i).toNat)
  case atStart => exact ⟨0, Int.le_refl _, v0, rfl, hidden (by simpa using HM1.out)⟩
  case round =>
   clear HM1
   obtain ⟨j, hj0, hj1, rfl, HM⟩ := hrel
   have cv := mk_vars HM.out
   by_cases hlt : j < v
   ·go_wp2_with fail
    refine (mk_digits HM.out j hj0 (by omega)).mono ?_
    rintro e w2 ⟨s, rfl, s1, h⟩
    have HM2 := hidden h
    clear h cv HM
    go_wp2_with fail
    have hsz : (⟨#[118, 97, 114, 105, 97, 98, 108, 101, 32, 118]⟩ ++ s : ByteArray).size = 11 := by simp only [ByteArray.size_append, s1.1]; rfl
    have hgr : Gr0 (⟨#[118, 97, 114, 105, 97, 98, 108, 101, 32, 118]⟩ ++ s : ByteArray).data.toList := Gr0.of (by simp only [ByteArray.data_append, Array.toList_append, List.all_append, s1.2.1]; rfl)
    have hgs : Gstep al' .out (⟨#[118, 97, 114, 105, 97, 98, 108, 101, 32, 118]⟩ ++ s : ByteArray).data.toList .out := by
     obtain ⟨d, d1, d2⟩ := isD_rng s1.2.2
     simp only [ByteArray.data_append, Array.toList_append, d1]
     exact .var d d2
    generalize (⟨#[118, 97, 114, 105, 97, 98, 108, 101, 32, 118]⟩ ++ s : ByteArray) = x at hsz hgr hgs ⊢
    refine (mk_says HM2.out x hgs (by omega) (by omega) hgr (L' := j.toNat * 12 + 12) (by omega)).mono ?_
    rintro e w3 ⟨rfl, h⟩
    have HM3 := hidden h
    clear h
    go_wp2_with fail
    go_roundw
    case rel => exact ⟨j + 1, by omega, by omega, by go_num, hidden (HM3.out.more (by omega))⟩
    case measure => simp [intOf]; omega
   ·have HM0 := hidden (HM.out.more (L' := 48) (by omega))
    clear HM
    go_wp2_with fail
    refine (mk_next HM0.out 4 (by omega) (by omega)).mono ?_
    rintro e w2 ⟨n, rfl, n0, n4, h, _⟩
    have HM2 := hidden h
    clear h HM0 cv
    go_wp2_with fail
    go_loopw [8] (fun i wr => ∃ j : Int, 0 ≤ j ∧ j ≤ 1 + n ∧ i = .int .i64 j ∧ Hid (MK B mb a nn c l j v al' .out j.toNat (48 + j.toNat * 7307) X wr)) (fun i _ => 5 - (intOf i).toNat)
    case atStart => exact ⟨0, Int.le_refl _, by omega, rfl, hidden (by simpa using HM2.out)⟩
    case round =>
     clear HM2
     obtain ⟨t, ht0, ht1, rfl, HM⟩ := hrel
     by_cases hlt2 : t < 1 + n
     ·go_wp2_with fail
      refine (mk_digits HM.out t ht0 (by omega)).mono ?_
      rintro e w3 ⟨s, rfl, s1, h⟩
      have HM3 := hidden h
      clear h HM
      go_wp2_with fail
      have hsz : (⟨#[58, 32, 119]⟩ ++ s : ByteArray).size = 4 := by simp only [ByteArray.size_append, s1.1]; rfl
      have hgr : Gr0 (⟨#[58, 32, 119]⟩ ++ s : ByteArray).data.toList := Gr0.of (by simp only [ByteArray.data_append, Array.toList_append, List.all_append, s1.2.1]; rfl)
      have hgs : Gstep al' .out (⟨#[58, 32, 119]⟩ ++ s : ByteArray).data.toList (.inn []) := by
       obtain ⟨d, d1, d2⟩ := isD_rng s1.2.2
       simp only [ByteArray.data_append, Array.toList_append, d1]
       exact .colon d d2
      generalize (⟨#[58, 32, 119]⟩ ++ s : ByteArray) = x at hsz hgr hgs ⊢
      refine (mk_says HM3.out x hgs (by omega) (by omega) hgr (L' := 48 + t.toNat * 7307 + 5) (by omega)).mono ?_
      rintro e w4 ⟨rfl, h⟩
      have HM4 := hidden h
      clear h HM3
      go_wp2_with fail
      refine (mk_body2 _ _ _ HM4.out (by omega)).mono ?_
      rintro e w5 ⟨rfl, h⟩
      have HM5 := hidden h
      clear h HM4
      go_wp2_with fail
      refine (mk_semi HM5.out (by omega)).mono ?_
      rintro e w6 ⟨rfl, h⟩
      have ck := (mk_words h).1
      have f3 := mk_free h 3
      have HM6 := hidden h
      clear h HM5
      go_wp2_with fail
      go_roundw
      case rel => exact ⟨t + 1, by omega, by omega, by go_num, hidden ((HM6.out.setK (t + 1) ⟨by omega, by omega⟩).moreq (by omega) (by omega))⟩
      case measure => simp [intOf]; omega
     ·go_wp2_with fail
      go_ret
      obtain ⟨i, s, i0, ⟨s1, s2, s3⟩, hb, _, _, _, _, _, hc⟩ := HM.out
      exact (show MadePostG _ _ _ _ _ _ _ from ⟨mb, i, s, t, v, rfl, by have := HMB.out; omega, by omega, by omega, by omega, (by rw [HAL.out]; exact s2), by omega, by rw [HAL.out]; exact hb, HFIN.out _ hc⟩)
end Go.Proofs.YtcphhbofjkenaaaGreatDoor
