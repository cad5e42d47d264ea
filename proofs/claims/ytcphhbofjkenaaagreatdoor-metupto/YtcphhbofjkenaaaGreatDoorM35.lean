import Derived.Laws.BytesArg
import Derived.Test.YtcphhbofjkenaaaGreatDoorM34
namespace Go.Proofs.YtcphhbofjkenaaaGreatDoor
set_option maxRecDepth 100000
set_option maxHeartbeats 16000000
open Go Go.RowKit
set_option linter.unusedVariables false
set_option linter.unusedSimpArgs false
def I64 (n : Int) : Prop := -9223372036854775808 ≤ n ∧ n ≤ 9223372036854775807
def Gr0 (t : List UInt8) : Prop := ∀ b ∈ t, b ≠ 59 ∧ b ≠ 92 ∧ b < 128
def Grp (t : List UInt8) : Prop := t = [59] ∨ Gr0 t
theorem Gr0.of {t : List UInt8} (h : t.all (fun b => b != 59 && b != 92 && decide (b < 128)) = true) : Gr0 t := by
  intro b hb
  have := List.all_eq_true.mp h b hb
  simpa [and_assoc] using this
theorem Gr0.count {t : List UInt8} (h : Gr0 t) : t.count 59 = 0 := List.count_eq_zero.2 fun hm => (h 59 hm).1 rfl
theorem count_says (s t : ByteArray) : (s ++ t ++ ⟨#[32]⟩ : ByteArray).data.toList.count 59 = s.data.toList.count 59 + t.data.toList.count 59 := by
  simp [ByteArray.data_append, List.count_append]
def TextOk (s : ByteArray) : Prop := ∃ ts : List (List UInt8), (∀ t ∈ ts, Grp t) ∧ s.data.toList = (ts.map (· ++ [32])).flatten
theorem TextOk.nil : TextOk ⟨#[]⟩ := ⟨[], by simp, rfl⟩
theorem TextOk.says {s t : ByteArray} (h : TextOk s) (ht : Grp t.data.toList) : TextOk (s ++ t ++ ⟨#[32]⟩) := by
  obtain ⟨ts, h1, h2⟩ := h
  refine ⟨ts ++ [t.data.toList], fun x hx => ?_, ?_⟩
  · rcases List.mem_append.mp hx with h | h
    · exact h1 x h
    · rw [List.mem_singleton.mp h]; exact ht
  · simp [ByteArray.data_append, h2]
theorem keep_pick (c n : Int) (hc : I64 c) (h1 : 1 ≤ n) (h2 : n ≤ 2147483647) (w : World) :
    Calls Tryz.prog 17 #[.int .i64 c, .int .i64 n] w fun e w' => ∃ r : Int, e = .returned (.int .i64 r) ∧ 0 ≤ r ∧ r < n ∧ w' = w := by
  obtain ⟨c1, c2⟩ := hc
  by_cases hn : c < 0
  · have hm1 : 0 ≤ (-(c + 1)) % n := Int.emod_nonneg _ (by omega)
    have hm2 : (-(c + 1)) % n < n := Int.emod_lt_of_pos _ (by omega)
    have hm3 : (-(c + 1)).tmod n = (-(c + 1)) % n := Int.tmod_eq_emod_of_nonneg (by omega)
    go_enter Tryz.func17, Tryz.ntmps17
    go_wp2_with fail
    go_ret
    exact ⟨_, rfl, hm1, hm2, rfl⟩
  · have hm1 : 0 ≤ c % n := Int.emod_nonneg _ (by omega)
    have hm2 : c % n < n := Int.emod_lt_of_pos _ (by omega)
    have hm3 : c.tmod n = c % n := Int.tmod_eq_emod_of_nonneg (by omega)
    go_enter Tryz.func17, Tryz.ntmps17
    go_wp2_with fail
    go_ret
    exact ⟨_, rfl, hm1, hm2, rfl⟩
def IsD (s : ByteArray) (n : Int) : Prop := ∃ d : UInt8, s.data.toList = [d] ∧ d.toNat = 48 + n.toNat ∧ n.toNat < 10
theorem keep_digits2 (n : Int) (h0 : 0 ≤ n) (h1 : n < 10) (w : World) :
    Calls Tryz.prog 16 #[.int .i64 n] w fun e w' => ∃ s : ByteArray, e = .returned (.string s) ∧ (s.size = 1 ∧ s.data.toList.all (fun b => b != 59 && b != 92 && decide (b < 128)) = true ∧ IsD s n) ∧ Below w.heap.size w w' := by
  have hcv := run_convert_bytes_arg (P := Tryz.prog) (w.alloc (.cells #[.int .u8 (48 + n)] 5)) 93 5 Tryz.underlying93 Tryz.underlying5 w.heap.size 0 1 1 [48 + n] rfl (fun i hi => match i, hi with | 0, _ => (blk_new w #[.int .u8 (48 + n)] 5).cell 0 _ rfl) 9 Tryz.underlying9
  go_enter Tryz.func16, Tryz.ntmps16
  go_wp2_with fail
  go_ret
  exact ⟨_, rfl, ⟨by simp [strOfNums]; rfl, by
    have : n = 0 ∨ n = 1 ∨ n = 2 ∨ n = 3 ∨ n = 4 ∨ n = 5 ∨ n = 6 ∨ n = 7 ∨ n = 8 ∨ n = 9 := by omega
    rcases this with rfl | rfl | rfl | rfl | rfl | rfl | rfl | rfl | rfl | rfl <;> decide, by
    have : n = 0 ∨ n = 1 ∨ n = 2 ∨ n = 3 ∨ n = 4 ∨ n = 5 ∨ n = 6 ∨ n = 7 ∨ n = 8 ∨ n = 9 := by omega
    rcases this with rfl | rfl | rfl | rfl | rfl | rfl | rfl | rfl | rfl | rfl <;> exact ⟨_, rfl, by decide, by decide⟩⟩, (Below.refl _ _).alloc (Nat.le_refl _) _⟩
def mkC (a : Option Addr) (n c : Nat) (i : Int) (s : ByteArray) (k v : Int) (al : Bool) : Array Value := #[.slice a n c, .int .i64 i, .string s, .int .i64 k, .int .i64 v, .bool al]
theorem keep_says (w : World) (mb : Nat) (a : Option Addr) (n c : Nat) (i : Int) (s : ByteArray) (k v : Int) (al : Bool) (t : ByteArray) (hb : Blk w mb (mkC a n c i s k v al) 34) (hs : s.size ≤ 1000000) (ht : t.size ≤ 1000) :
    Calls Tryz.prog 38 #[.pointer (some ⟨mb, 0, none⟩), .string t] w fun e w' => e = .returned (.tuple #[]) ∧ (∃ s' : ByteArray, (s'.size = s.size + t.size + 1 ∧ s' = s ++ t ++ ⟨#[32]⟩) ∧ Blk w' mb (mkC a n c i s' k v al) 34) ∧ Chg (fun b => b = mb) w w' := by
  have c2 : w.cell? ⟨mb, 2, none⟩ = some (.string s) := hb.cell 2 _ rfl
  have f2 := hb.frozen 2
  go_enter Tryz.func38, Tryz.ntmps38
  go_wp2_with fail
  go_end0
  refine ⟨rfl, ⟨s ++ t ++ ⟨#[32]⟩, ?_, ?_⟩, (Chg.refl (fun b => b = mb) w).setCell (p := ⟨mb, 2, none⟩) rfl _⟩
  · exact ⟨by simp [ByteArray.size_append]; rfl, rfl⟩
  · have := hb.set (o := 2) (.string (s ++ t ++ ⟨#[32]⟩)); simpa [mkC] using this
section
attribute [local go_sem] quietG
theorem keep_next {B : Nat} (w : World) (mb : Nat) (a : Option Addr) (nn c : Nat) (i : Int) (s : ByteArray) (k v : Int) (al : Bool) (n : Int) (l : List Int) (hb : Blk w mb (mkC a nn c i s k v al) 34) (hr : InsAt B w (.slice a nn c) l) (hl : ∀ x ∈ l, I64 x) (hB : B ≤ mb) (hi : 0 ≤ i) (hil : l.length ≤ 1100000) (h1 : 1 ≤ n) (h2 : n ≤ 1000) :
    Calls Tryz.prog 37 #[.pointer (some ⟨mb, 0, none⟩), .int .i64 n] w fun e w' => ∃ r i' : Int, e = .returned (.int .i64 r) ∧ 0 ≤ r ∧ r < n ∧ 0 ≤ i' ∧ Blk w' mb (mkC a nn c i' s k v al) 34 ∧ Chg (fun b => b = mb) w w' := by
  have c0 : w.cell? ⟨mb, 0, none⟩ = some (.slice a nn c) := hb.cell 0 _ rfl
  have c1 : w.cell? ⟨mb, 1, none⟩ = some (.int .i64 i) := hb.cell 1 _ rfl
  have f1 := hb.frozen 1
  have hnn : nn = l.length := by
    rcases hr with ⟨rfl, a', c', e⟩ | ⟨pb, po, c', e, _⟩
    · simp at e; simp [e]
    · simp at e; exact e.2.1
  have hnl : (nn : Int) ≤ 1100000 := by omega
  have HB := hidden hb
  by_cases hge : (nn : Int) ≤ i
  · have hd : decide ((nn : Int) ≤ i) = true := by simpa using hge
    clear hb hr hnn
    go_enter Tryz.func37, Tryz.ntmps37
    go_wp2_with fail
    go_quiet (fail)
    go_wp2_with fail
    go_ret
    exact ⟨0, i, rfl, Int.le_refl _, by omega, hi, HB.out, ⟨rfl, rfl, rfl, Nat.le_refl _, fun _ _ _ => rfl⟩⟩
  · have hd : decide ((nn : Int) ≤ i) = false := by simpa using hge
    obtain ⟨j, hj⟩ : ∃ j : Nat, j = i.toNat := ⟨_, rfl⟩
    have hjl : j < l.length := by omega
    obtain ⟨pb, po, rfl, hpb, hx⟩ : ∃ pb po, a = some ⟨pb, po, none⟩ ∧ pb < B ∧ ∀ (j : Nat) (y : Int), l[j]? = some y → w.cell? ⟨pb, po + j, none⟩ = some (.int .i64 y) := by
      rcases hr with ⟨rfl, _⟩ | ⟨pb, po, c', e, _, h3, h4⟩
      · simp at hjl
      · simp at e; exact ⟨pb, po, e.1, h3, h4⟩
    have hxj := hx j l[j] (List.getElem?_eq_getElem hjl)
    have hxi := hl l[j] (List.getElem_mem hjl)
    have hne : pb ≠ mb := by omega
    generalize l[j] = x at hxj hxi
    rw [hj] at hxj
    have HP := hidden (fun w' => keep_pick x n hxi h1 (by omega) w')
    have hin : i < (nn : Int) := by omega
    have hpw : pb < w.heap.size := by have := hb.lt; omega
    have hwr : IntKind.i64.wrap i = i := i64_wrap i hi (by omega)
    have him : i ≤ 1100000 := by omega
    clear hb hr hnn hx hxi hil hl hjl hge hB hpb hj j hnl
    go_enter Tryz.func37, Tryz.ntmps37
    go_wp2_with fail
    go_quiet (fail)
    go_upto_region 4 with fail
    obtain ⟨V, hV⟩ : ∃ V : World, V = (w.drewN nq).setCell ⟨mb, 1, none⟩ (.int .i64 (i + 1)) := ⟨_, rfl⟩
    have hbV : Blk V mb (mkC (some ⟨pb, po, none⟩) nn c (i + 1) s k v al) 34 := by
      rw [hV]
      have := Blk.set (w := w.drewN nq) HB.out (o := 1) (.int .i64 (i + 1)); simpa [mkC] using this
    have hcV : Chg (fun b => b = mb) w V := by
      rw [hV]
      exact (show Chg (fun b => b = mb) w (w.drewN nq) from ⟨rfl, rfl, rfl, Nat.le_refl _, fun _ _ _ => rfl⟩).setCell (p := ⟨mb, 1, none⟩) rfl _
    have d0 : V.cell? ⟨mb, 0, none⟩ = some (.slice (some ⟨pb, po, none⟩) nn c) := hbV.cell 0 _ rfl
    have d1 : V.cell? ⟨mb, 1, none⟩ = some (.int .i64 (i + 1)) := hbV.cell 1 _ rfl
    have dx : V.cell? ⟨pb, po + i.toNat, none⟩ = some (.int .i64 x) := by
      exact (hcV.cell (p := ⟨pb, po + i.toNat, none⟩) hpw hne).trans hxj
    rw [← hV]
    clear hV c0 c1 f1 hxj HB
    have HBV := hidden hbV; have HCV := hidden hcV
    have HC : Hid (V.drew.cell? ⟨mb, 0, none⟩ = some (.slice (some ⟨pb, po, none⟩) nn c) ∧ V.drew.cell? ⟨mb, 1, none⟩ = some (.int .i64 (i + 1)) ∧ V.drew.cell? ⟨pb, po + i.toNat, none⟩ = some (.int .i64 x)) := hidden ⟨d0, d1, dx⟩
    have k0 : ∀ u : {w' : World // w'.cell? ⟨mb, 0, none⟩ = some (.slice (some ⟨pb, po, none⟩) nn c) ∧ w'.cell? ⟨mb, 1, none⟩ = some (.int .i64 (i + 1)) ∧ w'.cell? ⟨pb, po + i.toNat, none⟩ = some (.int .i64 x)}, u.val.cell? ⟨mb, 0, none⟩ = some (.slice (some ⟨pb, po, none⟩) nn c) := fun u => u.property.1
    have k1 : ∀ u : {w' : World // w'.cell? ⟨mb, 0, none⟩ = some (.slice (some ⟨pb, po, none⟩) nn c) ∧ w'.cell? ⟨mb, 1, none⟩ = some (.int .i64 (i + 1)) ∧ w'.cell? ⟨pb, po + i.toNat, none⟩ = some (.int .i64 x)}, u.val.cell? ⟨mb, 1, none⟩ = some (.int .i64 (i + 1)) := fun u => u.property.2.1
    have k2 : ∀ u : {w' : World // w'.cell? ⟨mb, 0, none⟩ = some (.slice (some ⟨pb, po, none⟩) nn c) ∧ w'.cell? ⟨mb, 1, none⟩ = some (.int .i64 (i + 1)) ∧ w'.cell? ⟨pb, po + i.toNat, none⟩ = some (.int .i64 x)}, u.val.cell? ⟨pb, po + i.toNat, none⟩ = some (.int .i64 x) := fun u => u.property.2.2
    have hne : Nonempty {w' : World // w'.cell? ⟨mb, 0, none⟩ = some (.slice (some ⟨pb, po, none⟩) nn c) ∧ w'.cell? ⟨mb, 1, none⟩ = some (.int .i64 (i + 1)) ∧ w'.cell? ⟨pb, po + i.toNat, none⟩ = some (.int .i64 x)} := ⟨⟨V, d0, d1, dx⟩⟩
    clear hbV hcV d0 d1 dx
    refine wp_region_turns (C := OneOf fun w' => w'.cell? ⟨mb, 0, none⟩ = some (.slice (some ⟨pb, po, none⟩) nn c) ∧ w'.cell? ⟨mb, 1, none⟩ = some (.int .i64 (i + 1)) ∧ w'.cell? ⟨pb, po + i.toNat, none⟩ = some (.int .i64 x)) 13 [12] ⟨V.drew, HC.out⟩ (by kernel_rfl) (by kernel_rfl) rfl ?_
    rw [show List.range 13 = [0, 1, 2, 3, 4, 5, 6, 7, 8, 9, 10, 11, 12] from rfl]
    repeat (refine wpT_step rfl rfl (fun K hK => ?_); go_simp; refine hK _ ?_; clear hK K)
    refine wpT_call1 rfl rfl 17 #[.int .i64 x, .int .i64 n] (by go_simp) ((HP.out _).mono ?_)
    rintro e w2 ⟨r, rfl, r1, r2, rfl⟩
    refine ⟨_, rfl, HC.out, wpT_end ?_⟩
    intro w' hw'
    rw [show w' = V.drew from hw']
    clear hw' w' k0 k1 k2 hne
    simp only [List.drop_succ_cons, List.drop_zero]
    go_wp2_with fail
    go_ret
    exact ⟨r, i + 1, rfl, r1, r2, by omega, HBV.out, HCV.out.drew⟩
end
end Go.Proofs.YtcphhbofjkenaaaGreatDoor
namespace Go.Proofs.YtcphhbofjkenaaaGreatDoor
set_option maxRecDepth 100000
set_option maxHeartbeats 16000000
open Go Go.RowKit
set_option linter.unusedVariables false
set_option linter.unusedSimpArgs false
def evens : List ByteArray := [⟨#[110, 101, 103, 97, 116, 101]⟩, ⟨#[97, 98, 115]⟩, ⟨#[48, 61]⟩, ⟨#[100, 117, 112, 32, 43]⟩, ⟨#[100, 117, 112, 32, 42]⟩, ⟨#[49, 32, 43]⟩, ⟨#[51, 32, 45]⟩, ⟨#[55, 32, 109, 111, 100]⟩, ⟨#[50, 32, 47]⟩, ⟨#[100, 117, 112, 32, 111, 117, 116]⟩, ⟨#[53, 32, 115, 119, 97, 112, 32, 45]⟩, ⟨#[49, 32, 111, 118, 101, 114, 32, 43, 32, 110, 105, 112]⟩, ⟨#[100, 117, 112, 32, 100, 117, 112, 32, 114, 111, 116, 32, 100, 114, 111, 112, 32, 109, 97, 120]⟩, ⟨#[51, 32, 116, 117, 99, 107, 32, 42, 32, 109, 105, 110]⟩, ⟨#[45, 49, 32, 120, 111, 114]⟩, ⟨#[54, 32, 111, 114, 32, 53, 32, 97, 110, 100]⟩, ⟨#[100, 117, 112, 32, 50, 32, 60, 32, 45]⟩]
def others : List ByteArray := [⟨#[105, 110, 32, 43]⟩, ⟨#[100, 117, 112, 32, 51, 32, 33]⟩, ⟨#[49, 32, 64, 32, 43]⟩, ⟨#[100, 117, 112, 32, 48, 32, 33]⟩, ⟨#[48, 32, 64, 32, 109, 97, 120]⟩, ⟨#[100, 117, 112, 32, 57, 32, 109, 111, 100, 32, 64, 32, 43]⟩]
theorem evens_small : ∀ (k : Nat), k < 17 → ∃ t, (evens.map Value.string)[k]? = some (.string t) ∧ t.size ≤ 20 ∧ Gr0 t.data.toList ∧ t ∈ evens := by
  intro k hk
  have h : ∀ k, k < 17 → (((evens[k]?).map ByteArray.size).getD 99 ≤ 20 ∧ ((evens[k]?).map fun t => t.data.toList.all (fun b => b != 59 && b != 92 && decide (b < 128))).getD false = true) := by decide +kernel
  have := h k hk
  have hl : evens.length = 17 := rfl
  rw [List.getElem?_eq_getElem (by omega)] at this
  exact ⟨evens[k], by rw [List.getElem?_map, List.getElem?_eq_getElem (by omega)]; rfl, this.1, Gr0.of this.2, List.getElem_mem _⟩
theorem others_small : ∀ (k : Nat), k < 6 → ∃ t, (others.map Value.string)[k]? = some (.string t) ∧ t.size ≤ 20 ∧ Gr0 t.data.toList ∧ t ∈ others := by
  intro k hk
  have h : ∀ k, k < 6 → (((others[k]?).map ByteArray.size).getD 99 ≤ 20 ∧ ((others[k]?).map fun t => t.data.toList.all (fun b => b != 59 && b != 92 && decide (b < 128))).getD false = true) := by decide +kernel
  have := h k hk
  have hl : others.length = 6 := rfl
  rw [List.getElem?_eq_getElem (by omega)] at this
  exact ⟨others[k], by rw [List.getElem?_map, List.getElem?_eq_getElem (by omega)]; rfl, this.1, Gr0.of this.2, List.getElem_mem _⟩
inductive St
  | out
  | inn (fs : List Nat)
inductive Gstep (al : Bool) : St → List UInt8 → St → Prop
  | var (d : UInt8) (h : 48 ≤ d.toNat ∧ d.toNat ≤ 57) : Gstep al .out [118, 97, 114, 105, 97, 98, 108, 101, 32, 118, d] .out
  | colon (d : UInt8) (h : 48 ≤ d.toNat ∧ d.toNat ≤ 57) : Gstep al .out [58, 32, 119, d] (.inn [])
  | even {fs : List Nat} {t : ByteArray} (h : t ∈ evens) : Gstep al (.inn fs) t.data.toList (.inn fs)
  | other {fs : List Nat} {t : ByteArray} (ha : al = false) (h : t ∈ others) : Gstep al (.inn fs) t.data.toList (.inn fs)
  | word {fs : List Nat} (d : UInt8) (h : 48 ≤ d.toNat ∧ d.toNat ≤ 57) : Gstep al (.inn fs) [119, d] (.inn fs)
  | iff {fs : List Nat} : Gstep al (.inn fs) [100, 117, 112, 32, 51, 32, 62, 32, 105, 102] (.inn (0 :: fs))
  | els {fs : List Nat} : Gstep al (.inn (0 :: fs)) [101, 108, 115, 101] (.inn (1 :: fs))
  | thn0 {fs : List Nat} : Gstep al (.inn (0 :: fs)) [116, 104, 101, 110] (.inn fs)
  | thn1 {fs : List Nat} : Gstep al (.inn (1 :: fs)) [116, 104, 101, 110] (.inn fs)
  | doo {fs : List Nat} (d e : UInt8) (h : 48 ≤ d.toNat ∧ d.toNat ≤ 57) (h2 : 48 ≤ e.toNat ∧ e.toNat ≤ 57) : Gstep al (.inn fs) [d, 32, e, 32, 100, 111] (.inn (2 :: fs))
  | loop {fs : List Nat} : Gstep al (.inn (2 :: fs)) [105, 32, 43, 32, 108, 111, 111, 112] (.inn fs)
  | semi : Gstep al (.inn []) [59] .out
inductive Tx (al : Bool) : St → List (List UInt8) → Prop
  | nil : Tx al .out []
  | snoc {st st' : St} {gs : List (List UInt8)} {g : List UInt8} (h : Tx al st gs) (hg : Gstep al st g st') : Tx al st' (gs ++ [g])
def TextG (al : Bool) (st : St) (s : ByteArray) : Prop := TextOk s ∧ ∃ gs, Tx al st gs ∧ s.data.toList = (gs.map (· ++ [32])).flatten
theorem TextG.nil {al : Bool} : TextG al .out ⟨#[]⟩ := ⟨.nil, [], .nil, rfl⟩
theorem TextG.says {al : Bool} {st st' : St} {s t : ByteArray} (h : TextG al st s) (hg : Gstep al st t.data.toList st') (ht : Grp t.data.toList) : TextG al st' (s ++ t ++ ⟨#[32]⟩) := by
  obtain ⟨h0, gs, h1, h2⟩ := h
  exact ⟨h0.says ht, gs ++ [t.data.toList], h1.snoc hg, by simp [ByteArray.data_append, h2]⟩
theorem isD_rng {s : ByteArray} {n : Int} (h : IsD s n) : ∃ d : UInt8, s.data.toList = [d] ∧ 48 ≤ d.toNat ∧ d.toNat ≤ 57 := by
  obtain ⟨d, h1, h2, h3⟩ := h
  exact ⟨d, h1, by omega, by omega⟩
def MK (B mb : Nat) (a : Option Addr) (nn c : Nat) (l : List Int) (k v : Int) (al : Bool) (st : St) (q : Nat) (L : Nat) (w0 w : World) : Prop :=
  ∃ (i : Int) (s : ByteArray), 0 ≤ i ∧ (s.size ≤ L ∧ TextG al st s ∧ s.data.toList.count 59 ≤ q) ∧ Blk w mb (mkC a nn c i s k v al) 34 ∧ InsAt B w (.slice a nn c) l ∧ (∀ x ∈ l, I64 x) ∧ B ≤ mb ∧ l.length ≤ 1100000 ∧ (0 ≤ k ∧ k ≤ 4) ∧ Chg (fun b => b = mb) w0 w
section
variable {B mb : Nat} {a : Option Addr} {nn c : Nat} {l : List Int} {k v : Int} {al : Bool} {st st' : St} {q : Nat} {L : Nat} {w0 w : World}
theorem InsAt.chg {S : Nat → Prop} {w' : World} {iv : Value} (h : InsAt B w iv l) (hc : Chg S w w') (hB : B ≤ w.heap.size) (hs : ∀ b, b < B → ¬ S b) : InsAt B w' iv l := h.below (hc.toBelow hB hs)
theorem MK.lt (h : MK B mb a nn c l k v al st q L w0 w) : mb < w.heap.size := by
  obtain ⟨i, s, h1, h2, h3, _⟩ := h
  exact h3.lt
theorem MK.more (h : MK B mb a nn c l k v al st q L w0 w) {L' : Nat} (hL : L ≤ L') : MK B mb a nn c l k v al st q L' w0 w := by
  obtain ⟨i, s, h1, h2, r⟩ := h
  exact ⟨i, s, h1, ⟨by omega, h2.2⟩, r⟩
theorem MK.chg {w' : World} (h : MK B mb a nn c l k v al st q L w0 w) {i' : Int} {s' : ByteArray} {L' q' : Nat} (hi : 0 ≤ i') (hs : s'.size ≤ L' ∧ TextG al st' s' ∧ s'.data.toList.count 59 ≤ q') (hb : Blk w' mb (mkC a nn c i' s' k v al) 34) (hc : Chg (fun b => b = mb) w w') : MK B mb a nn c l k v al st' q' L' w0 w' := by
  obtain ⟨i, s, h1, h2, h3, h4, h5, h6, h7, h8, h9⟩ := h
  exact ⟨i', s', hi, hs, hb, h4.chg hc (Nat.le_of_lt (Nat.lt_of_le_of_lt h6 h3.lt)) (fun b hb e => by omega), h5, h6, h7, h8, h9.trans hc⟩
theorem MK.below {w' : World} (h : MK B mb a nn c l k v al st q L w0 w) (hb : Below w.heap.size w w') : MK B mb a nn c l k v al st q L w0 w' := by
  have h' := h
  obtain ⟨i, s, h1, h2, h3, _⟩ := h
  exact h'.chg h1 h2 (h3.sub hb h3.lt) (Chg.ofBelow hb)
theorem mk_next (h : MK B mb a nn c l k v al st q L w0 w) (n : Int) (h1 : 1 ≤ n) (h2 : n ≤ 1000) :
    Calls Tryz.prog 37 #[.pointer (some ⟨mb, 0, none⟩), .int .i64 n] w fun e w' => ∃ r : Int, e = .returned (.int .i64 r) ∧ 0 ≤ r ∧ r < n ∧ MK B mb a nn c l k v al st q L w0 w' ∧ Chg (fun b => b = mb) w w' := by
  have h' := h
  obtain ⟨i, s, i0, s1, hb, hr, hl, hB, hil, _⟩ := h
  refine (keep_next w mb a nn c i s k v al n l hb hr hl hB i0 hil h1 h2).mono ?_
  rintro e w' ⟨r, i', rfl, r1, r2, r3, r4, r5⟩
  exact ⟨r, rfl, r1, r2, h'.chg r3 s1 r4 r5, r5⟩
theorem mk_says (h : MK B mb a nn c l k v al st q L w0 w) (t : ByteArray) (hg : Gstep al st t.data.toList st') (hL : L ≤ 900000) (ht : t.size ≤ 100) (hn : Gr0 t.data.toList) {L' : Nat} (hL' : L + t.size + 1 ≤ L') :
    Calls Tryz.prog 38 #[.pointer (some ⟨mb, 0, none⟩), .string t] w fun e w' => e = .returned (.tuple #[]) ∧ MK B mb a nn c l k v al st' q L' w0 w' := by
  have h' := h
  obtain ⟨i, s, i0, s1, hb, _⟩ := h
  refine (keep_says w mb a nn c i s k v al t hb (by omega) (by omega)).mono ?_
  rintro e w' ⟨rfl, ⟨s', ⟨r1, rs⟩, r2⟩, r3⟩
  exact ⟨rfl, h'.chg i0 ⟨by omega, by rw [rs]; exact s1.2.1.says hg (.inr hn), by rw [rs, count_says, hn.count]; exact s1.2.2⟩ r2 r3⟩
theorem mk_semi (h : MK B mb a nn c l k v al (.inn []) q L w0 w) (hL : L ≤ 900000) :
    Calls Tryz.prog 38 #[.pointer (some ⟨mb, 0, none⟩), .string ⟨#[59]⟩] w fun e w' => e = .returned (.tuple #[]) ∧ MK B mb a nn c l k v al .out (q + 1) (L + 2) w0 w' := by
  have h' := h
  obtain ⟨i, s, i0, s1, hb, _⟩ := h
  refine (keep_says w mb a nn c i s k v al ⟨#[59]⟩ hb (by omega) (by decide)).mono ?_
  rintro e w' ⟨rfl, ⟨s', ⟨r1, rs⟩, r2⟩, r3⟩
  have h1 : (⟨#[59]⟩ : ByteArray).size = 1 := rfl
  have h2 : (⟨#[59]⟩ : ByteArray).data.toList.count 59 = 1 := rfl
  exact ⟨rfl, h'.chg i0 ⟨by omega, by rw [rs]; exact s1.2.1.says .semi (.inl rfl), by rw [rs, count_says, h2]; have := s1.2.2; omega⟩ r2 r3⟩
theorem mk_digits (h : MK B mb a nn c l k v al st q L w0 w) (n : Int) (h0 : 0 ≤ n) (h1 : n < 10) :
    Calls Tryz.prog 16 #[.int .i64 n] w fun e w' => ∃ s : ByteArray, e = .returned (.string s) ∧ (s.size = 1 ∧ s.data.toList.all (fun b => b != 59 && b != 92 && decide (b < 128)) = true ∧ IsD s n) ∧ MK B mb a nn c l k v al st q L w0 w' := by
  refine (keep_digits2 n h0 h1 w).mono ?_
  rintro e w' ⟨s, rfl, r1, r2⟩
  exact ⟨s, rfl, r1, h.below r2⟩
theorem mk_even (h : MK B mb a nn c l k v al st q L w0 w) :
    Calls Tryz.prog 71 #[.pointer (some ⟨mb, 0, none⟩)] w fun e w' => ∃ t : ByteArray, e = .returned (.string t) ∧ (t.size ≤ 20 ∧ Gr0 t.data.toList ∧ t ∈ evens) ∧ MK B mb a nn c l k v al st q L w0 w' := by
  obtain ⟨X, hX⟩ : ∃ X : World, X = w.alloc (.cells #[.string ⟨#[110, 101, 103, 97, 116, 101]⟩, .string ⟨#[97, 98, 115]⟩, .string ⟨#[48, 61]⟩, .string ⟨#[100, 117, 112, 32, 43]⟩, .string ⟨#[100, 117, 112, 32, 42]⟩, .string ⟨#[49, 32, 43]⟩, .string ⟨#[51, 32, 45]⟩, .string ⟨#[55, 32, 109, 111, 100]⟩, .string ⟨#[50, 32, 47]⟩, .string ⟨#[100, 117, 112, 32, 111, 117, 116]⟩, .string ⟨#[53, 32, 115, 119, 97, 112, 32, 45]⟩, .string ⟨#[49, 32, 111, 118, 101, 114, 32, 43, 32, 110, 105, 112]⟩, .string ⟨#[100, 117, 112, 32, 100, 117, 112, 32, 114, 111, 116, 32, 100, 114, 111, 112, 32, 109, 97, 120]⟩, .string ⟨#[51, 32, 116, 117, 99, 107, 32, 42, 32, 109, 105, 110]⟩, .string ⟨#[45, 49, 32, 120, 111, 114]⟩, .string ⟨#[54, 32, 111, 114, 32, 53, 32, 97, 110, 100]⟩, .string ⟨#[100, 117, 112, 32, 50, 32, 60, 32, 45]⟩] 9 (0, 0)) := ⟨_, rfl⟩
  obtain ⟨g, hg⟩ : ∃ g, g = w.heap.size := ⟨_, rfl⟩
  have hbX : Below w.heap.size w X := by rw [hX]; exact (Below.refl _ _).alloc (Nat.le_refl _) _
  have hrX : ∀ (j : Nat) (u : Value), (evens.map Value.string)[j]? = some u → X.cell? ⟨g, j, none⟩ = some u := fun j u hu => by
    rw [hX, hg]
    exact (blk_new w _ _).cell j u (by rw [← Array.getElem?_toList]; exact hu)
  have hgX : g < X.heap.size := by rw [hX, hg]; simp
  have hgm : g ≠ mb := by have := h.lt; omega
  have HN := hidden (mk_next (h.below hbX) 17 (by omega) (by omega))
  have HX := hidden hX; have HR := hidden hrX; have HG := hidden hg
  clear h hX hrX hbX hg
  go_enter Tryz.func71, Tryz.ntmps71
  go_upto_region 1 with fail
  go_wp2_with fail
  rw [← HX.out, ← HG.out]
  refine HN.out.mono ?_
  rintro e w1 ⟨r, rfl, r1, r2, hM, hc⟩
  obtain ⟨t, ht, htl⟩ := evens_small r.toNat (by omega)
  have hx : w1.cell? ⟨g, r.toNat, none⟩ = some (.string t) := (hc.cell (p := ⟨g, r.toNat, none⟩) hgX hgm).trans (HR.out _ _ ht)
  have HM := hidden hM
  clear hM hc ht HN HX HR HG
  go_wp2_with fail
  go_ret
  exact ⟨t, rfl, htl, HM.out⟩
end
def sumT : ByteArray := ⟨#[58, 32, 115, 117, 109, 32, 48, 32, 53, 32, 49, 32, 100, 111, 32, 105, 32, 43, 32, 108, 111, 111, 112, 32, 111, 117, 116, 32, 59]⟩
def sumN : ByteArray := ⟨#[115, 117, 109]⟩
theorem sum_load : (loadR sumT [] 0 0 []).1 = (0, 0) := by decide +kernel
theorem sum_nv : (loadR sumT [] 0 0 []).2.2.1 = 0 := by decide +kernel
theorem sum_find : findRes (lastP (loadR sumT [] 0 0 []).2.1 sumN (loadR sumT [] 0 0 []).2.1.length) = .tuple #[.agg #[.int .i64 0, .int .i64 0, .int .i64 3, .int .i64 18, .bool true], .int .i64 0] := by kernel_rfl
theorem sum_start : startOf (lastP (loadR sumT [] 0 0 []).2.1 sumN (loadR sumT [] 0 0 []).2.1.length) = some 0 := by decide +kernel
theorem sum_run : (runM (loadR sumT [] 0 0 []).2.2.2.2 100 0 ⟨[], [], [], 0⟩ ⟨[], [], []⟩).1 = 18 ∧ (runM (loadR sumT [] 0 0 []).2.2.2.2 100 0 ⟨[], [], [], 0⟩ ⟨[], [], []⟩).2.1 = 0 ∧ (runM (loadR sumT [] 0 0 []).2.2.2.2 100 0 ⟨[], [], [], 0⟩ ⟨[], [], []⟩).2.2.2.outs = [10] := by decide +kernel
theorem alk_nil : Alk [] [] [] := ⟨⟨rfl, fun k x y h => by simp at h⟩, Coded.nil⟩
theorem wsOk_nil : WsOk [] := fun x hx => by simp at hx
structure KSys (w : World) (bb : Nat) (R : List PE × Int × Int × List Int) (ws : List RW) : Prop where
  sys : ∃ ev cv, PSys w bb ev cv R.1 R.2.1 R.2.2.1 R.2.2.2
  inv : LInv R.1 R.2.1 R.2.2.1 R.2.2.2
  alk : Alk R.1 R.2.2.2 ws
  wsb : WsB ws
  tab : Tab w
theorem KSys.below {w w' : World} {bb : Nat} {R : List PE × Int × Int × List Int} {ws : List RW} (h : KSys w bb R ws) (hb : Below w.heap.size w w') : KSys w' bb R ws :=
  ⟨h.sys.imp fun ev h => h.imp fun cv h => h.below hb, h.inv, h.alk, h.wsb, h.tab.below hb⟩
theorem load_new {w w1 w2 : World} {bb : Nat} {s : ByteArray} {e : Ending} (h0 : w.heap.size ≤ bb) (hb : Below w.heap.size w w1) (hp : LoadPost w1 bb (.slice none 0 0) (.slice none 0 0) (loadR s [] 0 0 []) e w2) :
    e = .returned (.tuple #[.int .i64 (loadR s [] 0 0 []).1.1, .int .i64 (loadR s [] 0 0 []).1.2]) ∧ (∃ ws, KSys w2 bb (loadR s [] 0 0 []).2 ws) ∧ Below w.heap.size w w2 := by
  obtain ⟨h1, ⟨ev, cv, h2, h3, _⟩, h5, h6⟩ := hp
  obtain ⟨ws, a1, a2, _⟩ := load_ws s alk_nil LInv.zero wsOk_nil WsB.nil
  refine ⟨h1, ⟨ws, ⟨ev, cv, h2⟩, h5, a1, a2, h3⟩, hb.trans (h6.toBelow hb.size fun b hbb e => ?_)⟩
  rcases e with e | e | e
  · omega
  · simp [Value.ownBlock] at e
  · simp [Value.ownBlock] at e
theorem keep_run {w : World} {bb : Nat} {R : List PE × Int × Int × List Int} {ws : List RW} {sv iv : Value} {st ins : List Int} (h : KSys w bb R ws) (x : ByteArray) (f : Int) (hs : InsAt w.heap.size w sv st) (hj : InsAt w.heap.size w iv ins) (h0 : (findI ws x).2 = 0) (hm : mayR st ins f = true) (hl2 : ins.length ≤ 1100000) :
    Calls Tryz.prog 21 #[.pointer (some ⟨bb, 0, none⟩), .string x, sv, iv, .int .i64 f] w fun e w' => ∃ (xa oa va : Option Addr) (xn xc on oc vn vc : Nat), e = .returned (.tuple #[.agg #[.slice xa xn xc, .slice oa on oc, .slice va vn vc, .int .i64 (runD ws R.2.1.toNat x st ins f.toNat).1, .int .i64 (runD ws R.2.1.toNat x st ins f.toNat).2.1], .int .i64 0]) ∧
      OutK w.heap.size w' (.slice xa xn xc) (.slice oa on oc) (.slice va vn vc) (runD ws R.2.1.toNat x st ins f.toNat).2.2.1.reverse (runD ws R.2.1.toNat x st ins f.toNat).2.2.2.outs (runD ws R.2.1.toNat x st ins f.toNat).2.2.2.vars ∧ xn = (runD ws R.2.1.toNat x st ins f.toNat).2.2.1.length ∧ Below w.heap.size w w' := by
  obtain ⟨ev, cv, hsys⟩ := h.sys
  have hm' := hm
  simp only [mayR, Bool.and_eq_true, decide_eq_true_eq] at hm'
  refine (forth_runD x f hsys h.inv h.tab h.alk hs hj (Nat.le_refl _) (by omega) hl2).mono ?_
  rintro e w' ⟨hp, hb⟩
  have hc : runC ws x st ins f = 0 := by unfold runC; rw [if_neg (by omega), if_pos hm]
  rcases hp with ⟨hne, _⟩ | ⟨_, xv, ov, vv, rfl, hro⟩
  · exact absurd hc hne
  · obtain ⟨xa, xc, rfl, _, _⟩ := row_shape hro.s
    obtain ⟨oa, on, oc, rfl⟩ := irow_shape hro.o
    obtain ⟨va, vn, vc, rfl⟩ := irow_shape hro.v
    exact ⟨xa, oa, va, _, xc, on, oc, vn, vc, rfl, ⟨hro.s, hro.o, hro.v⟩, by simp, hb⟩
section
attribute [local go_sem] quietG
theorem keep_works (w : World) (ht : Tab w) : Calls Tryz.prog 40 #[] w fun e w' => e = .returned (.bool true) ∧ Below w.heap.size w w' := by
  have HT := hidden ht
  have HN := hidden (forth_new w ht)
  clear ht
  go_enter Tryz.func40, Tryz.ntmps40
  go_wp2_with fail
  refine HN.out.mono ?_
  rintro e w1 ⟨bb, hbb, rfl, hp, hb1⟩
  have HL := hidden (forth_load sumT hp (HT.out.below hb1) (by decide) LInv.zero)
  have HB1 := hidden hb1
  clear hp hb1 HN
  go_wp2_with fail
  refine (show Calls _ _ #[.pointer (some ⟨bb, 0, none⟩), .string ⟨#[58, 32, 115, 117, 109, 32, 48, 32, 53, 32, 49, 32, 100, 111, 32, 105, 32, 43, 32, 108, 111, 111, 112, 32, 111, 117, 116, 32, 59]⟩] _ _ from HL.out).mono ?_
  intro e w2 hpost
  obtain ⟨h1, ⟨ws, hK⟩, hb2⟩ := load_new hbb HB1.out hpost
  rw [sum_load] at h1
  simp only at h1
  subst h1
  have HK := hidden hK; have HB2 := hidden hb2
  obtain ⟨ev, cv, hsys⟩ := hK.sys
  have HF := hidden (forth_find sumN hsys (by have := hK.inv.l; omega))
  clear hpost hK hb2 HL HB1 hsys
  go_wp2_with fail
  refine (show Calls _ _ #[.pointer (some ⟨bb, 0, none⟩), .string ⟨#[115, 117, 109]⟩] _ _ from HF.out).mono ?_
  rintro e w3 ⟨rfl, hb3⟩
  rw [sum_find]
  obtain ⟨fb, hfb⟩ : ∃ fb, fb = w3.heap.size := ⟨_, rfl⟩
  obtain ⟨Y, hY⟩ : ∃ Y : World, Y = w3.alloc (.cells #[.int .i64 0, .int .i64 0, .int .i64 3, .int .i64 18, .bool true] 36 (0, 0)) := ⟨_, rfl⟩
  have hbY : Below w3.heap.size w3 Y := by rw [hY]; exact (Below.refl _ _).alloc (Nat.le_refl _) _
  have hkY : Blk Y fb #[.int .i64 0, .int .i64 0, .int .i64 3, .int .i64 18, .bool true] 36 := by rw [hY, hfb]; exact blk_new w3 _ _
  have HY := hidden hY; have HFB := hidden hfb; have HKY := hidden hkY
  have hb4 : Below w2.heap.size w2 Y := hb3.trans (hbY.mono hb3.size)
  have HKS := hidden (HK.out.below hb4)
  have HB4 := hidden (HB2.out.trans (hb4.mono HB2.out.size))
  clear hfb hY hbY hkY hb3 hb4 HF HK HB2
  go_upto_region 6 with fail
  rw [← HY.out, ← HFB.out]
  have q0 : Y.cell? ⟨fb, 0, none⟩ = some (.int .i64 0) := HKY.out.cell 0 _ rfl
  have q1 : Y.cell? ⟨fb, 1, none⟩ = some (.int .i64 0) := HKY.out.cell 1 _ rfl
  have q2 : Y.cell? ⟨fb, 2, none⟩ = some (.int .i64 3) := HKY.out.cell 2 _ rfl
  have q3 : Y.cell? ⟨fb, 3, none⟩ = some (.int .i64 18) := HKY.out.cell 3 _ rfl
  have q4 : Y.cell? ⟨fb, 4, none⟩ = some (.bool true) := HKY.out.cell 4 _ rfl
  have hfl := HKY.out.lt
  have hN : (findI ws sumN).2 = 0 := by
    have := find_eq HKS.out.alk.toAlike sumN
    rw [sum_find] at this
    simp at this
    exact this.2.symm
  have hm : mayR [] [] 100 = true := by decide
  have HRN := hidden (keep_run (sv := .slice none 0 0) (iv := .slice none 0 0) HKS.out sumN 100 (Or.inl ⟨rfl, none, 0, rfl⟩) (Or.inl ⟨rfl, none, 0, rfl⟩) hN hm (by simp))
  obtain ⟨p, e4, m1, m2, m3, m4, m5, m6⟩ := runD_runM HKS.out.alk hN hm (loadR sumT [] 0 0 []).2.2.1.toNat
  rw [sum_start] at e4
  obtain rfl : p = 0 := by simpa using e4.symm
  rw [sum_nv] at m1 m2 m3
  obtain ⟨s1, s2, s3⟩ := sum_run
  have d1 : (runD ws (loadR sumT [] 0 0 []).2.2.1.toNat sumN [] [] (100 : Int).toNat).1 = 18 := by rw [sum_nv, ← m1]; exact s1
  have d2 : (runD ws (loadR sumT [] 0 0 []).2.2.1.toNat sumN [] [] (100 : Int).toNat).2.1 = 0 := by rw [sum_nv, ← m2]; exact s2
  have d3 : (runD ws (loadR sumT [] 0 0 []).2.2.1.toNat sumN [] [] (100 : Int).toNat).2.2.2.outs = [10] := by rw [sum_nv, ← m3]; exact s3
  rw [d1, d2, d3, show ((18 : Nat) : Int) = 18 from rfl] at HRN
  clear e4 m1 m2 m3 m4 m5 m6 s1 s2 s3 d1 d2 d3 hN hm
  go_wp2_with fail
  refine (show Calls _ _ #[.pointer (some ⟨bb, 0, none⟩), .string ⟨#[115, 117, 109]⟩, .slice none 0 0, .slice none 0 0, .int .i64 100] _ _ from HRN.out).mono ?_
  rintro e w4 ⟨xa, oa, va, xn, xc, on, oc, vn, vc, rfl, ho, hxn, hb4⟩
  clear hxn
  obtain ⟨g, cap, hv, _, hg, _, _, hcc⟩ := row_cells ho.o (by decide)
  obtain ⟨rfl, rfl, rfl⟩ : oa = some ⟨g, 0, none⟩ ∧ on = 1 ∧ oc = cap := by simpa using hv
  have cg : w4.cell? ⟨g, 0, none⟩ = some (.int .i64 10) := hcc 0 _ rfl
  obtain ⟨ob, hob⟩ : ∃ ob, ob = w4.heap.size := ⟨_, rfl⟩
  obtain ⟨Z, hZ⟩ : ∃ Z : World, Z = w4.alloc (.cells #[.slice xa xn xc, .slice (some ⟨g, 0, none⟩) 1 oc, .slice va vn vc, .int .i64 18, .int .i64 0] 43 (0, 0)) := ⟨_, rfl⟩
  have hbZ : Below w4.heap.size w4 Z := by rw [hZ]; exact (Below.refl _ _).alloc (Nat.le_refl _) _
  have hkZ : Blk Z ob #[.slice xa xn xc, .slice (some ⟨g, 0, none⟩) 1 oc, .slice va vn vc, .int .i64 18, .int .i64 0] 43 := by rw [hZ, hob]; exact blk_new w4 _ _
  have z1 : Z.cell? ⟨ob, 1, none⟩ = some (.slice (some ⟨g, 0, none⟩) 1 oc) := hkZ.cell 1 _ rfl
  have z3 : Z.cell? ⟨ob, 3, none⟩ = some (.int .i64 18) := hkZ.cell 3 _ rfl
  have z4 : Z.cell? ⟨ob, 4, none⟩ = some (.int .i64 0) := hkZ.cell 4 _ rfl
  have zg : Z.cell? ⟨g, 0, none⟩ = some (.int .i64 10) := (hbZ.cell (p := ⟨g, 0, none⟩) hg).trans cg
  have hgZ : g < Z.heap.size := Nat.lt_of_lt_of_le hg hbZ.size
  have hoZ := hkZ.lt
  have HZ := hidden hZ; have HOB := hidden hob
  have HFIN := hidden (HB4.out.trans ((hb4.trans (hbZ.mono hb4.size)).mono HB4.out.size))
  clear ho hb4 hv hcc cg hob hZ hbZ hkZ q0 q1 q2 q3 q4 HRN HKS HKY hg
  go_upto_region 9 with fail
  rw [← HZ.out, ← HOB.out]
  go_wp2_with fail
  go_ret
  exact ⟨rfl, HFIN.out⟩
end
end Go.Proofs.YtcphhbofjkenaaaGreatDoor
namespace Go.Proofs.YtcphhbofjkenaaaGreatDoor
set_option maxRecDepth 100000
set_option maxHeartbeats 16000000
open Go Go.RowKit
set_option linter.unusedVariables false
set_option linter.unusedSimpArgs false
structure CRow (B : Nat) (w0 w : World) (v : Value) (xs : List Int) : Prop where
  row : IRow B w v xs
  cel : ∀ x ∈ xs, Cell x
  bel : Below B w0 w
theorem insAt_cells {B : Nat} {w : World} {a : Option Addr} {nn c : Nat} {l : List Int} (h : InsAt B w (.slice a nn c) l) : nn = l.length ∧ ∀ (j : Nat) (y : Int), l[j]? = some y → ∃ pb po, a = some ⟨pb, po, none⟩ ∧ pb < B ∧ w.cell? ⟨pb, po + j, none⟩ = some (.int .i64 y) := by
  rcases h with ⟨rfl, a', c', e⟩ | ⟨pb, po, c', e, _, h3, h4⟩
  · simp at e; exact ⟨by simp [e], fun j y hy => by simp at hy⟩
  · simp at e; exact ⟨e.2.1, fun j y hy => ⟨pb, po, e.1, h3, h4 j y hy⟩⟩
theorem keep_cells {B : Nat} (w : World) (a : Option Addr) (nn c : Nat) (l : List Int) (hr : InsAt B w (.slice a nn c) l) (hl : ∀ x ∈ l, I64 x) (hB : B ≤ w.heap.size) (hil : l.length ≤ 1100000) :
    Calls Tryz.prog 20 #[.slice a nn c] w fun e w' => ∃ (v : Value) (xs : List Int), e = .returned v ∧ CRow w.heap.size w w' v xs ∧ xs.length = l.length := by
  obtain ⟨hnn, hce⟩ := insAt_cells hr
  have HN := hidden hnn; have HCE := hidden hce; have HL := hidden hl
  have hnl : (nn : Int) ≤ 1100000 := by omega
  obtain ⟨i0, hi, hz0, hz1, hz2⟩ := info_parts Tryz.infoIn
  have HI := hidden (And.intro hi (And.intro hz0 (And.intro hz1 hz2)))
  clear hnn hce hl hr hi hz0 hz1 hz2 hil
  go_enter Tryz.func20, Tryz.ntmps20
  go_wp2_with fail
  go_loopw [3, 4] (fun v i wr => ∃ (j : Nat) (xs : List Int) (va : Option Addr) (vn vc : Nat), j ≤ nn ∧ v = .slice va vn vc ∧ i = .int .i64 j ∧ Hid (CRow w.heap.size w wr (.slice va vn vc) xs ∧ xs.length = j)) (fun _ i _ => nn - (intOf i).toNat)
  case atStart => exact ⟨0, [], none, 0, 0, Nat.zero_le _, rfl, rfl, hidden ⟨⟨⟨rfl, Or.inl ⟨rfl, rfl⟩⟩, (fun x hx => by simp at hx), Below.refl _ _⟩, rfl⟩⟩
  case round =>
    obtain ⟨j, xs, va, vn, vc, hj, rfl, rfl, HC⟩ := hrel
    by_cases hlt : j < nn
    · have hji : (j : Int) < (nn : Int) := by omega
      obtain ⟨y, hyj⟩ : ∃ y, l[j]? = some y := ⟨_, List.getElem?_eq_getElem (by rw [← HN.out]; exact hlt)⟩
      obtain ⟨pb, po, rfl, hpb, cy⟩ := HCE.out j y hyj
      have hpw : pb < w.heap.size := by omega
      have cyr : wr.cell? ⟨pb, po + j, none⟩ = some (.int .i64 y) := (HC.out.1.bel.cell (p := ⟨pb, po + j, none⟩) hpw).trans cy
      have hpr : pb < wr.heap.size := Nat.lt_of_lt_of_le hpw HC.out.1.bel.size
      have HP := hidden (fun w' => keep_pick y 2147483647 (HL.out y (List.mem_of_getElem? hyj)) (by omega) (by omega) w')
      clear cy hyj
      go_wp2_with fail
      refine (HP.out _).mono ?_
      rintro e w3 ⟨r, rfl, r0, r1, rfl⟩
      clear HP cyr
      obtain ⟨hi0, hz0, hsz0, hb0⟩ := HI.out
      have hbA : Below w.heap.size w (w3.alloc (.cells #[.int .i64 r] 3 (0, 0))) := HC.out.1.bel.alloc HC.out.1.bel.size _
      have hrA : (w3.alloc (.cells #[.int .i64 r] 3 (0, 0))).ownsRow w.heap.size 3 1 (.slice va vn vc) xs.length (ints xs) := HC.out.1.row.alloc _
      have hsm : xs.length ≤ 1100000 := by have := HC.out.2; omega
      obtain ⟨qn, hqn⟩ : ∃ qn, qn = xs.length := ⟨_, rfl⟩
      obtain ⟨qi, hqi⟩ : ∃ qi, qi = ints xs := ⟨_, rfl⟩
      rw [← hqn, ← hqi] at hrA
      rw [← hqn] at hsm
      have HQ := hidden (And.intro hqn hqi)
      clear hqn hqi
      have HBA := hidden hbA; have HRA := hidden hrA
      have HNW := hidden (newsM w3 #[.int .i64 r] 3)
      clear hbA hrA
      go_wp2_with (at_builtin; refine wpList_append_own _ rfl _ _ 24 rfl w.heap.size 3 i0 (.int .i64 0) 1 8 Tryz.underlying24 hi0 hz0 hsz0 hb0 rfl (by decide) (.slice va vn vc) qn qi rfl HRA.out ⟨w3.heap.size, 0, none⟩ 1 1 [.int .i64 r] rfl rfl HNW.out (by intro u hu; rw [List.mem_singleton.1 hu]; rfl) (by unfold maxLen; omega) (by omega) HBA.out.size ?_)
      intro v4 w4 hr4 hg4 _
      have hr4' : IRow w.heap.size w4 v4 (xs ++ [r]) := by
        show w4.ownsRow _ _ _ _ _ _
        obtain ⟨e1, e2⟩ := HQ.out
        rw [show ints (xs ++ [r]) = ints xs ++ [.int .i64 r] by simp [ints], List.length_append, ← e1, ← e2]
        exact hr4
      have hb4 : Below w.heap.size w w4 := HBA.out.trans ((Chg.ofGrown hg4).toBelow HBA.out.size (fun q hq e => by have := own_base HRA.out e.symm; omega))
      obtain ⟨a4, n4, c4, rfl⟩ := irow_shape hr4'
      have hcc : ∀ x ∈ xs ++ [r], Cell x := fun x hx => by
        rcases List.mem_append.1 hx with h | h
        · exact HC.out.1.cel x h
        · rw [List.mem_singleton.1 h]; exact ⟨by omega, by omega⟩
      have HF : Hid (CRow w.heap.size w w4 (.slice a4 n4 c4) (xs ++ [r]) ∧ (xs ++ [r]).length = j + 1) := hidden ⟨⟨hr4', hcc, hb4⟩, by rw [List.length_append, HC.out.2]; rfl⟩
      clear hr4 hg4 hr4' hb4 hi0 hz0 hsz0 hb0 HNW HRA HBA HC hcc HQ
      go_wp2_with fail
      go_roundw
      case rel => exact ⟨j + 1, _, a4, n4, c4, by omega, rfl, by go_num, HF⟩
      case measure => simp only [intOf]; omega
    · obtain rfl : j = nn := by omega
      have hji : ¬ (j : Int) < (j : Int) := by omega
      go_wp2_with fail
      go_ret
      exact ⟨.slice va vn vc, rfl, xs, HC.out.1, HC.out.2.trans HN.out⟩
theorem insAt_take {B B' : Nat} {w : World} {va : Option Addr} {vn vc : Nat} {xs : List Int} (h : IRow B w (.slice va vn vc) xs) (hB : w.heap.size ≤ B') (k : Nat) (hk : k ≤ xs.length) : InsAt B' w (.slice va k vc) (xs.take k) := by
  obtain ⟨ad, cap, hv, hcap, _⟩ := row_shape h
  by_cases h0 : 0 < xs.length
  · obtain ⟨g, cap, hv, h1, h2, h3, h4, h5⟩ := row_cells h h0
    simp only [Value.slice.injEq] at hv
    obtain ⟨rfl, rfl, rfl⟩ := hv
    right
    refine ⟨g, 0, vc, ?_, by rw [List.length_take]; omega, by omega, fun j y hy => ?_⟩
    · rw [List.length_take, Nat.min_eq_left hk]
    · have : xs[j]? = some y := by
        rw [List.getElem?_take] at hy
        split at hy
        · exact hy
        · cases hy
      rw [Nat.zero_add]
      exact h5 j _ (by rw [ints, List.getElem?_map, this]; rfl)
  · obtain rfl : k = 0 := by omega
    exact Or.inl ⟨by simp, _, _, rfl⟩
theorem mk_words {B mb : Nat} {a : Option Addr} {nn c : Nat} {l : List Int} {k v : Int} {al : Bool} {st : St} {q : Nat} {L : Nat} {w0 w : World} (h : MK B mb a nn c l k v al st q L w0 w) : w.cell? ⟨mb, 3, none⟩ = some (.int .i64 k) ∧ 0 ≤ k ∧ k ≤ 4 := by
  obtain ⟨i, s, _, _, h3, _, _, _, _, h8, _⟩ := h
  exact ⟨h3.cell 3 _ rfl, h8⟩
theorem mk_alone {B mb : Nat} {a : Option Addr} {nn c : Nat} {l : List Int} {k v : Int} {al : Bool} {st : St} {q : Nat} {L : Nat} {w0 w : World} (h : MK B mb a nn c l k v al st q L w0 w) : w.cell? ⟨mb, 5, none⟩ = some (.bool al) := by
  obtain ⟨i, s, _, _, h3, _⟩ := h
  exact h3.cell 5 _ rfl
def BodySaid (B mb : Nat) (a : Option Addr) (nn c : Nat) (l : List Int) (k v : Int) (al : Bool) (fs : List Nat) (q : Nat) (dd : Int) (G : Nat) : Prop :=
  ∀ (L : Nat) (w0 w : World), MK B mb a nn c l k v al (.inn fs) q L w0 w → L + 4 * G ≤ 800000 → Calls Tryz.prog 39 #[.pointer (some ⟨mb, 0, none⟩), .int .i64 dd] w fun e w' => e = .returned (.tuple #[]) ∧ MK B mb a nn c l k v al (.inn fs) q (L + 4 * G) w0 w'
theorem mk_body {B mb : Nat} {a : Option Addr} {nn c : Nat} {l : List Int} {k v : Int} {al : Bool} {fs : List Nat} {q : Nat} (dd : Int) (G : Nat) (hd : 0 ≤ dd) (hd2 : dd ≤ 10) (hG : 25 ≤ G) (hrec : 0 < dd → ∃ G', (∀ fs, BodySaid B mb a nn c l k v al fs q (dd - 1) G') ∧ 25 + 8 * G' ≤ G) : BodySaid B mb a nn c l k v al fs q dd G := by
  intro L w0 w h hL
  have HREC := hidden hrec
  have HN := hidden (mk_next h 4 (by omega) (by omega))
  clear h hrec
  have HL := hidden hL; have HG := hidden hG
  clear hL hG
  go_enter Tryz.func39, Tryz.ntmps39
  go_wp2_with fail
  refine HN.out.mono ?_
  rintro e w1 ⟨n, rfl, n0, n4, hM, hc⟩
  have HM := hidden hM
  clear hM hc HN
  go_wp2_with fail
  go_loopw [5] (fun i wr => ∃ j : Int, 0 ≤ j ∧ j ≤ 1 + n ∧ i = .int .i64 j ∧ Hid (MK B mb a nn c l k v al (.inn fs) q (L + j.toNat * G) w0 wr)) (fun i _ => 5 - (intOf i).toNat)
  case atStart => exact ⟨0, Int.le_refl _, by omega, rfl, hidden (by simpa using HM.out)⟩
  case round =>
    clear HM
    obtain ⟨j, hj0, hj1, rfl, HM⟩ := hrel
    by_cases hlt : j < 1 + n
    · obtain ⟨M, hMM⟩ : ∃ M, M = L + j.toNat * G := ⟨_, rfl⟩
      have HMM : Hid (L + (j + 1).toNat * G = M + G ∧ M + G ≤ 800000) := by
        have h1 : (j + 1).toNat * G = j.toNat * G + G := by rw [show (j + 1).toNat = j.toNat + 1 by omega, Nat.succ_mul]
        have h2 : (j + 1).toNat * G ≤ 4 * G := Nat.mul_le_mul_right G (by omega)
        have := HL.out
        exact hidden ⟨by omega, by omega⟩
      rw [← hMM] at HM
      have HN := hidden (mk_next HM.out 8 (by omega) (by omega))
      clear HM hMM
      go_wp2_with fail
      refine HN.out.mono ?_
      rintro e w2 ⟨r, rfl, r0, r8, hM, hc⟩
      have HM2 := hidden hM
      clear hM hc HN
      by_cases hr1 : r = 1
      · subst hr1
        by_cases hpos : 0 < dd
        · obtain ⟨G', hbs, hgg⟩ := HREC.out hpos
          have HBS := hidden hbs; have HGG := hidden hgg
          clear hbs hgg
          go_wp2_with fail
          refine (mk_says HM2.out ⟨#[100, 117, 112, 32, 51, 32, 62, 32, 105, 102]⟩ .iff (by have := HMM.out.2; have := HG.out; have := HGG.out; omega) (by first | decide | omega) (Gr0.of rfl) (L' := M + 11) (by first | exact Nat.le_refl _ | omega)).mono ?_
          rintro e wHA3 ⟨rfl, h⟩
          have HA3 := hidden h
          clear h
          go_wp2_with fail
          refine (HBS.out _ _ _ _ HA3.out (by have := HMM.out.2; have := HG.out; have := HGG.out; omega)).mono ?_
          rintro e wHA4 ⟨rfl, h⟩
          have HA4 := hidden h
          clear h
          go_wp2_with fail
          refine (mk_next HA4.out 2 (by omega) (by omega)).mono ?_
          rintro e wHA5 ⟨z, rfl, z0, zn, h, _⟩
          have HA5 := hidden h
          clear h
          by_cases hq : z = 1
          · subst hq
            go_wp2_with fail
            refine (mk_says HA5.out ⟨#[101, 108, 115, 101]⟩ .els (by have := HMM.out.2; have := HG.out; have := HGG.out; omega) (by first | decide | omega) (Gr0.of rfl) (L' := M + 11 + 4 * G' + 5) (by first | exact Nat.le_refl _ | omega)).mono ?_
            rintro e wHA6 ⟨rfl, h⟩
            have HA6 := hidden h
            clear h
            go_wp2_with fail
            refine (HBS.out _ _ _ _ HA6.out (by have := HMM.out.2; have := HG.out; have := HGG.out; omega)).mono ?_
            rintro e wHA7 ⟨rfl, h⟩
            have HA7 := hidden h
            clear h
            go_wp2_with fail
            refine (mk_says HA7.out ⟨#[116, 104, 101, 110]⟩ .thn1 (by have := HMM.out.2; have := HG.out; have := HGG.out; omega) (by first | decide | omega) (Gr0.of rfl) (L' := M + 11 + 4 * G' + 5 + 4 * G' + 5) (by first | exact Nat.le_refl _ | omega)).mono ?_
            rintro e wHA8 ⟨rfl, h⟩
            have HA8 := hidden h
            clear h
            go_wp2_with fail
            go_roundw
            case rel => exact ⟨j + 1, by omega, by omega, by go_num, hidden (by rw [HMM.out.1]; exact HA8.out.more (by have := HMM.out.2; have := HG.out; have := HGG.out; omega))⟩
            case measure => simp [intOf]; omega
          · go_wp2_with fail
            refine (mk_says HA5.out ⟨#[116, 104, 101, 110]⟩ .thn0 (by have := HMM.out.2; have := HG.out; have := HGG.out; omega) (by first | decide | omega) (Gr0.of rfl) (L' := M + 11 + 4 * G' + 5) (by first | exact Nat.le_refl _ | omega)).mono ?_
            rintro e wHA6 ⟨rfl, h⟩
            have HA6 := hidden h
            clear h
            go_wp2_with fail
            go_roundw
            case rel => exact ⟨j + 1, by omega, by omega, by go_num, hidden (by rw [HMM.out.1]; exact HA6.out.more (by have := HMM.out.2; have := HG.out; have := HGG.out; omega))⟩
            case measure => simp [intOf]; omega
        · go_wp2_with fail
          refine (mk_even HM2.out).mono ?_
          rintro e w3 ⟨t, rfl, htl, h⟩
          have HM3 := hidden h
          clear h
          go_wp2_with fail
          refine (mk_says HM3.out t (.even htl.2.2) (by have := HMM.out.2; have := HG.out; omega) (by omega) htl.2.1 (L' := M + 25) (by omega)).mono ?_
          rintro e wHM4 ⟨rfl, h⟩
          have HM4 := hidden h
          clear h
          go_wp2_with fail
          go_roundw
          case rel => exact ⟨j + 1, by omega, by omega, by go_num, hidden (by rw [HMM.out.1]; exact HM4.out.more (by have := HMM.out.2; have := HG.out; omega))⟩
          case measure => simp [intOf]; omega
      · by_cases hr2 : r = 2
        · subst hr2
          by_cases hpos : 0 < dd
          · obtain ⟨G', hbs, hgg⟩ := HREC.out hpos
            have HBS := hidden hbs; have HGG := hidden hgg
            clear hbs hgg
            go_wp2_with fail
            refine (mk_next HM2.out 4 (by omega) (by omega)).mono ?_
            rintro e wHB3 ⟨f, rfl, f0, fn, h, _⟩
            have HB3 := hidden h
            clear h
            go_wp2_with fail
            refine (mk_next HB3.out 4 (by omega) (by omega)).mono ?_
            rintro e wHB4 ⟨g, rfl, g0, gn, h, _⟩
            have HB4 := hidden h
            clear h
            go_wp2_with fail
            refine (mk_digits HB4.out (f + g) (by omega) (by omega)).mono ?_
            rintro e wHB5 ⟨s, rfl, s1, h⟩
            have HB5 := hidden h
            clear h
            go_wp2_with fail
            refine (mk_digits HB5.out (f) (by omega) (by omega)).mono ?_
            rintro e wHB6 ⟨t, rfl, t1, h⟩
            have HB6 := hidden h
            clear h
            go_wp2_with fail
            have hsz : (s ++ ⟨#[32]⟩ ++ t ++ ⟨#[32, 100, 111]⟩ : ByteArray).size = 6 := by
              simp only [ByteArray.size_append, s1.1, t1.1]; rfl
            have hgr : Gr0 (s ++ ⟨#[32]⟩ ++ t ++ ⟨#[32, 100, 111]⟩ : ByteArray).data.toList := Gr0.of (by simp only [ByteArray.data_append, Array.toList_append, List.all_append, s1.2.1, t1.2.1]; rfl)
            have hgs : Gstep al (.inn fs) (s ++ ⟨#[32]⟩ ++ t ++ ⟨#[32, 100, 111]⟩ : ByteArray).data.toList (.inn (2 :: fs)) := by
              obtain ⟨d, d1, d2⟩ := isD_rng s1.2.2
              obtain ⟨d', d1', d2'⟩ := isD_rng t1.2.2
              simp only [ByteArray.data_append, Array.toList_append, d1, d1']
              exact .doo d d' d2 d2'
            generalize (s ++ ⟨#[32]⟩ ++ t ++ ⟨#[32, 100, 111]⟩ : ByteArray) = x at hsz hgr hgs ⊢
            refine (mk_says HB6.out x hgs (by have := HMM.out.2; have := HG.out; have := HGG.out; omega) (by omega) hgr (L' := M + 7) (by omega)).mono ?_
            rintro e w7 ⟨rfl, h⟩
            have HB7 := hidden h
            clear h
            go_wp2_with fail
            refine (HBS.out _ _ _ _ HB7.out (by have := HMM.out.2; have := HG.out; have := HGG.out; omega)).mono ?_
            rintro e wHB8 ⟨rfl, h⟩
            have HB8 := hidden h
            clear h
            go_wp2_with fail
            refine (mk_says HB8.out ⟨#[105, 32, 43, 32, 108, 111, 111, 112]⟩ .loop (by have := HMM.out.2; have := HG.out; have := HGG.out; omega) (by first | decide | omega) (Gr0.of rfl) (L' := M + 7 + 4 * G' + 9) (by first | exact Nat.le_refl _ | omega)).mono ?_
            rintro e wHB9 ⟨rfl, h⟩
            have HB9 := hidden h
            clear h
            go_wp2_with fail
            go_roundw
            case rel => exact ⟨j + 1, by omega, by omega, by go_num, hidden (by rw [HMM.out.1]; exact HB9.out.more (by have := HMM.out.2; have := HG.out; have := HGG.out; omega))⟩
            case measure => simp [intOf]; omega
          · go_wp2_with fail
            refine (mk_even HM2.out).mono ?_
            rintro e w3 ⟨t, rfl, htl, h⟩
            have HM3 := hidden h
            clear h
            go_wp2_with fail
            refine (mk_says HM3.out t (.even htl.2.2) (by have := HMM.out.2; have := HG.out; omega) (by omega) htl.2.1 (L' := M + 25) (by omega)).mono ?_
            rintro e wHM4 ⟨rfl, h⟩
            have HM4 := hidden h
            clear h
            go_wp2_with fail
            go_roundw
            case rel => exact ⟨j + 1, by omega, by omega, by go_num, hidden (by rw [HMM.out.1]; exact HM4.out.more (by have := HMM.out.2; have := HG.out; omega))⟩
            case measure => simp [intOf]; omega
        · by_cases hr3 : r = 3
          · subst hr3
            have ck := (mk_words HM2.out).1
            by_cases hpos : 0 < k
            · have ck := (mk_words HM2.out).1
              have ck4 := (mk_words HM2.out).2
              go_wp2_with fail
              refine (mk_next HM2.out k (by omega) (by omega)).mono ?_
              rintro e wHC3 ⟨f, rfl, f0, fn, h, _⟩
              have HC3 := hidden h
              clear h
              go_wp2_with fail
              refine (mk_digits HC3.out (f) (by omega) (by omega)).mono ?_
              rintro e wHC4 ⟨s, rfl, s1, h⟩
              have HC4 := hidden h
              clear h
              go_wp2_with fail
              have hsz : (⟨#[119]⟩ ++ s : ByteArray).size = 2 := by
                simp only [ByteArray.size_append, s1.1]; rfl
              have hgr : Gr0 (⟨#[119]⟩ ++ s : ByteArray).data.toList := Gr0.of (by simp only [ByteArray.data_append, Array.toList_append, List.all_append, s1.2.1]; rfl)
              have hgs : Gstep al (.inn fs) (⟨#[119]⟩ ++ s : ByteArray).data.toList (.inn fs) := by
                obtain ⟨d, d1, d2⟩ := isD_rng s1.2.2
                simp only [ByteArray.data_append, Array.toList_append, d1]
                exact .word d d2
              generalize (⟨#[119]⟩ ++ s : ByteArray) = x at hsz hgr hgs ⊢
              refine (mk_says HC4.out x hgs (by have := HMM.out.2; have := HG.out; omega) (by omega) hgr (L' := M + 25) (by omega)).mono ?_
              rintro e w7 ⟨rfl, h⟩
              have HC5 := hidden h
              clear h
              go_wp2_with fail
              go_roundw
              case rel => exact ⟨j + 1, by omega, by omega, by go_num, hidden (by rw [HMM.out.1]; exact HC5.out.more (by have := HMM.out.2; have := HG.out; omega))⟩
              case measure => simp [intOf]; omega
            · go_wp2_with fail
              refine (mk_even HM2.out).mono ?_
              rintro e w3 ⟨t, rfl, htl, h⟩
              have HM3 := hidden h
              clear h
              go_wp2_with fail
              refine (mk_says HM3.out t (.even htl.2.2) (by have := HMM.out.2; have := HG.out; omega) (by omega) htl.2.1 (L' := M + 25) (by omega)).mono ?_
              rintro e wHM4 ⟨rfl, h⟩
              have HM4 := hidden h
              clear h
              go_wp2_with fail
              go_roundw
              case rel => exact ⟨j + 1, by omega, by omega, by go_num, hidden (by rw [HMM.out.1]; exact HM4.out.more (by have := HMM.out.2; have := HG.out; omega))⟩
              case measure => simp [intOf]; omega
          · by_cases hr4 : r = 4
            · subst hr4
              cases al with
              | false =>
                have cal : w2.cell? ⟨mb, 5, none⟩ = some (.bool false) := mk_alone HM2.out
                obtain ⟨X, hX⟩ : ∃ X : World, X = w2.alloc (.cells #[.string ⟨#[105, 110, 32, 43]⟩, .string ⟨#[100, 117, 112, 32, 51, 32, 33]⟩, .string ⟨#[49, 32, 64, 32, 43]⟩, .string ⟨#[100, 117, 112, 32, 48, 32, 33]⟩, .string ⟨#[48, 32, 64, 32, 109, 97, 120]⟩, .string ⟨#[100, 117, 112, 32, 57, 32, 109, 111, 100, 32, 64, 32, 43]⟩] 9 (0, 0)) := ⟨_, rfl⟩
                obtain ⟨g, hg⟩ : ∃ g, g = w2.heap.size := ⟨_, rfl⟩
                have hbX : Below w2.heap.size w2 X := by rw [hX]; exact (Below.refl _ _).alloc (Nat.le_refl _) _
                have hrX : ∀ (j : Nat) (u : Value), (others.map Value.string)[j]? = some u → X.cell? ⟨g, j, none⟩ = some u := fun j u hu => by
                  rw [hX, hg]
                  exact (blk_new w2 _ _).cell j u (by rw [← Array.getElem?_toList]; exact hu)
                have hgX : g < X.heap.size := by rw [hX, hg]; simp
                have hgm : g ≠ mb := by have := HM2.out.lt; omega
                have HNN := hidden (mk_next (HM2.out.below hbX) 6 (by omega) (by omega))
                have HX := hidden hX; have HR := hidden hrX; have HGE := hidden hg
                clear hX hrX hbX hg
                go_wp2_with fail
                rw [← HX.out, ← HGE.out]
                refine HNN.out.mono ?_
                rintro e w3 ⟨f, rfl, f1, f2, hM, hc⟩
                obtain ⟨t, ht, htl⟩ := others_small f.toNat (by omega)
                have hx : w3.cell? ⟨g, f.toNat, none⟩ = some (.string t) := (hc.cell (p := ⟨g, f.toNat, none⟩) hgX hgm).trans (HR.out _ _ ht)
                have HM3 := hidden hM
                clear hM hc ht HNN HX HR HGE
                go_wp2_with fail
                refine (mk_says HM3.out t (.other rfl htl.2.2) (by have := HMM.out.2; have := HG.out; omega) (by omega) htl.2.1 (L' := M + 25) (by omega)).mono ?_
                rintro e wHM4 ⟨rfl, h⟩
                have HM4 := hidden h
                clear h
                go_wp2_with fail
                go_roundw
                case rel => exact ⟨j + 1, by omega, by omega, by go_num, hidden (by rw [HMM.out.1]; exact HM4.out.more (by have := HMM.out.2; have := HG.out; omega))⟩
                case measure => simp [intOf]; omega
              | true =>
                have cal : w2.cell? ⟨mb, 5, none⟩ = some (.bool true) := mk_alone HM2.out
                go_wp2_with fail
                refine (mk_even HM2.out).mono ?_
                rintro e w3 ⟨t, rfl, htl, h⟩
                have HM3 := hidden h
                clear h
                go_wp2_with fail
                refine (mk_says HM3.out t (.even htl.2.2) (by have := HMM.out.2; have := HG.out; omega) (by omega) htl.2.1 (L' := M + 25) (by omega)).mono ?_
                rintro e wHM4 ⟨rfl, h⟩
                have HM4 := hidden h
                clear h
                go_wp2_with fail
                go_roundw
                case rel => exact ⟨j + 1, by omega, by omega, by go_num, hidden (by rw [HMM.out.1]; exact HM4.out.more (by have := HMM.out.2; have := HG.out; omega))⟩
                case measure => simp [intOf]; omega
            · go_wp2_with fail
              refine (mk_even HM2.out).mono ?_
              rintro e w3 ⟨t, rfl, htl, h⟩
              have HM3 := hidden h
              clear h
              go_wp2_with fail
              refine (mk_says HM3.out t (.even htl.2.2) (by have := HMM.out.2; have := HG.out; omega) (by omega) htl.2.1 (L' := M + 25) (by omega)).mono ?_
              rintro e wHM4 ⟨rfl, h⟩
              have HM4 := hidden h
              clear h
              go_wp2_with fail
              go_roundw
              case rel => exact ⟨j + 1, by omega, by omega, by go_num, hidden (by rw [HMM.out.1]; exact HM4.out.more (by have := HMM.out.2; have := HG.out; omega))⟩
              case measure => simp [intOf]; omega
    · go_wp2_with fail
      go_end0
      refine ⟨rfl, HM.out.more ?_⟩
      have : j.toNat * G ≤ 4 * G := Nat.mul_le_mul_right G (by omega)
      omega
section
variable {B mb : Nat} {a : Option Addr} {nn c : Nat} {l : List Int} {k v : Int} {al : Bool} {st : St} {q : Nat} {L : Nat} {w0 w : World}
theorem mk_vars (h : MK B mb a nn c l k v al st q L w0 w) : w.cell? ⟨mb, 4, none⟩ = some (.int .i64 v) := by
  obtain ⟨i, s, _, _, h3, _⟩ := h
  exact h3.cell 4 _ rfl
theorem mk_free (h : MK B mb a nn c l k v al st q L w0 w) (o : Nat) : w.frozen? ⟨mb, o, none⟩ = false := by
  obtain ⟨i, s, _, _, h3, _⟩ := h
  exact h3.frozen o
theorem MK.setV (h : MK B mb a nn c l k v al st q L w0 w) (v' : Int) : MK B mb a nn c l k v' al st q L w0 (w.setCell ⟨mb, 4, none⟩ (.int .i64 v')) := by
  obtain ⟨i, s, h1, h2, h3, h4, h5, h6, h7, h8, h9⟩ := h
  have hb := h3.set (o := 4) (.int .i64 v')
  have hc : Chg (fun b => b = mb) w (w.setCell ⟨mb, 4, none⟩ (.int .i64 v')) := (Chg.refl (fun b => b = mb) w).setCell (p := ⟨mb, 4, none⟩) rfl _
  exact ⟨i, s, h1, h2, by simpa [mkC] using hb, h4.chg hc (Nat.le_of_lt (Nat.lt_of_le_of_lt h6 h3.lt)) (fun b hb e => by omega), h5, h6, h7, h8, h9.trans hc⟩
theorem MK.setK (h : MK B mb a nn c l k v al st q L w0 w) (k' : Int) (hk : 0 ≤ k' ∧ k' ≤ 4) : MK B mb a nn c l k' v al st q L w0 (w.setCell ⟨mb, 3, none⟩ (.int .i64 k')) := by
  obtain ⟨i, s, h1, h2, h3, h4, h5, h6, h7, h8, h9⟩ := h
  have hb := h3.set (o := 3) (.int .i64 k')
  have hc : Chg (fun b => b = mb) w (w.setCell ⟨mb, 3, none⟩ (.int .i64 k')) := (Chg.refl (fun b => b = mb) w).setCell (p := ⟨mb, 3, none⟩) rfl _
  exact ⟨i, s, h1, h2, by simpa [mkC] using hb, h4.chg hc (Nat.le_of_lt (Nat.lt_of_le_of_lt h6 h3.lt)) (fun b hb e => by omega), h5, h6, h7, hk, h9.trans hc⟩
theorem MK.moreq {q' L' : Nat} (h : MK B mb a nn c l k v al st q L w0 w) (hq : q ≤ q') (hL : L ≤ L') : MK B mb a nn c l k v al st q' L' w0 w := by
  obtain ⟨i, s, h1, h2, r⟩ := h
  exact ⟨i, s, h1, ⟨by omega, h2.2.1, by omega⟩, r⟩
theorem mk_body2 {fs : List Nat} : BodySaid B mb a nn c l k v al fs q 2 1825 :=
  mk_body 2 1825 (by omega) (by omega) (by omega) (fun _ => ⟨225, (fun fs => mk_body 1 225 (by omega) (by omega) (by omega) (fun _ => ⟨25, (fun fs => mk_body 0 25 (by omega) (by omega) (by omega) (fun h => absurd h (by omega))), by omega⟩)), by omega⟩)
end
def MadePostG (w : World) (a : Option Addr) (nn c : Nat) (al : Bool) (e : Ending) (w' : World) : Prop := ∃ (mb : Nat) (i : Int) (s : ByteArray) (k v : Int), e = .returned (.pointer (some ⟨mb, 0, none⟩)) ∧ w.heap.size ≤ mb ∧ 1 ≤ k ∧ k ≤ 4 ∧ s.size ≤ 100000 ∧ TextG al .out s ∧ s.data.toList.count 59 ≤ 4 ∧ Blk w' mb (mkC a nn c i s k v al) 34 ∧ Below w.heap.size w w'
theorem mk_madeG {B : Nat} (w : World) (a : Option Addr) (nn c : Nat) (l : List Int) (al : Bool) (hr : InsAt B w (.slice a nn c) l) (hl : ∀ x ∈ l, I64 x) (hB : B ≤ w.heap.size) (hil : l.length ≤ 1100000) :
    Calls Tryz.prog 14 #[.slice a nn c, .bool al] w fun e w' => MadePostG w a nn c al e w' := by
  obtain ⟨mb, hmb⟩ : ∃ mb, mb = w.heap.size := ⟨_, rfl⟩
  obtain ⟨X, hX⟩ : ∃ X : World, X = w.alloc (.cells (mkC a nn c 0 ⟨#[]⟩ 0 0 al) 34 (0, 0)) := ⟨_, rfl⟩
  have hbX : Below w.heap.size w X := by rw [hX]; exact (Below.refl _ _).alloc (Nat.le_refl _) _
  have hkX : Blk X mb (mkC a nn c 0 ⟨#[]⟩ 0 0 al) 34 := by rw [hX, hmb]; exact blk_new w _ _
  have hMX : MK B mb a nn c l 0 0 al .out 0 0 X X := ⟨0, _, Int.le_refl _, ⟨Nat.le_refl _, .nil, Nat.le_refl _⟩, hkX, hr.below (hbX.mono hB), hl, by omega, hil, ⟨by omega, by omega⟩, Chg.refl _ _⟩
  have HMB := hidden hmb; have HMX := hidden hMX
  have HFIN : Hid (∀ w', Chg (fun b => b = mb) X w' → Below w.heap.size w w') := hidden fun w' hc => hbX.trans (hc.toBelow hbX.size (fun b hb e => by omega))
  have HX : Hid (X = w.alloc (.cells #[.slice a nn c, .int .i64 0, .string ⟨#[]⟩, .int .i64 0, .int .i64 0, .bool al] 34 (0, 0))) := hidden hX
  clear hX hmb hbX hkX hMX hr hl
  go_enter Tryz.func14, Tryz.ntmps14
  go_upto_region 2 with fail
  rw [← HX.out, ← HMB.out]
  cases al
  case' false =>
    obtain ⟨al', hal⟩ : ∃ x : Bool, x = false := ⟨_, rfl⟩
    go_wp2_with fail
    refine (mk_next HMX.out 5 (by omega) (by omega)).mono ?_
    rintro e w1 ⟨v, rfl, v0, v5, h, _⟩
    have f4 := mk_free h 4
    have c4 := mk_vars h
    have HM1 : Hid (MK B mb a nn c l 0 v al' .out 0 0 X (w1.setCell ⟨mb, 4, none⟩ (.int .i64 v))) := by rw [hal]; exact hidden (h.setV v)
    clear h HMX
    go_wp2_with fail
    obtain ⟨W, hW⟩ : ∃ W : World, W = w1.setCell ⟨mb, 4, none⟩ (.int .i64 v) := ⟨_, rfl⟩
    rw [← hW] at HM1 ⊢
    have HAL : Hid (false = al') := hidden hal.symm
    clear hW f4 c4 hal
  case' true =>
    obtain ⟨al', hal⟩ : ∃ x : Bool, x = true := ⟨_, rfl⟩
    go_wp2_with fail
    obtain ⟨W, hW⟩ : ∃ W : World, W = X := ⟨_, rfl⟩
    obtain ⟨v, hv⟩ : ∃ v : Int, v = 0 := ⟨_, rfl⟩
    have HM1 : Hid (MK B mb a nn c l 0 v al' .out 0 0 X W) := by rw [hv, hW, hal]; exact HMX
    have v0 : 0 ≤ v := by omega
    have v5 : v < 5 := by omega
    have HW : Hid (X = W) := hidden hW.symm
    have HAL : Hid (true = al') := hidden hal.symm
    clear hv HMX hal
    rw [← hW]
    clear hW
  all_goals
    go_loopw [6] (fun i wr => ∃ j : Int, 0 ≤ j ∧ j ≤ v ∧ i = .int .i64 j ∧ Hid (MK B mb a nn c l 0 v al' .out 0 (j.toNat * 12) X wr)) (fun i _ => 5 - (intOf i).toNat)
    case atStart => exact ⟨0, Int.le_refl _, v0, rfl, hidden (by simpa using HM1.out)⟩
    case round =>
      clear HM1
      obtain ⟨j, hj0, hj1, rfl, HM⟩ := hrel
      have cv := mk_vars HM.out
      by_cases hlt : j < v
      · go_wp2_with fail
        refine (mk_digits HM.out j hj0 (by omega)).mono ?_
        rintro e w2 ⟨s, rfl, s1, h⟩
        have HM2 := hidden h
        clear h cv HM
        go_wp2_with fail
        have hsz : (⟨#[118, 97, 114, 105, 97, 98, 108, 101, 32, 118]⟩ ++ s : ByteArray).size = 11 := by simp only [ByteArray.size_append, s1.1]; rfl
        have hgr : Gr0 (⟨#[118, 97, 114, 105, 97, 98, 108, 101, 32, 118]⟩ ++ s : ByteArray).data.toList := Gr0.of (by simp only [ByteArray.data_append, Array.toList_append, List.all_append, s1.2.1]; rfl)
        have hgs : Gstep al' .out (⟨#[118, 97, 114, 105, 97, 98, 108, 101, 32, 118]⟩ ++ s : ByteArray).data.toList .out := by
          obtain ⟨d, d1, d2⟩ := isD_rng s1.2.2
          simp only [ByteArray.data_append, Array.toList_append, d1]
          exact .var d d2
        generalize (⟨#[118, 97, 114, 105, 97, 98, 108, 101, 32, 118]⟩ ++ s : ByteArray) = x at hsz hgr hgs ⊢
        refine (mk_says HM2.out x hgs (by omega) (by omega) hgr (L' := j.toNat * 12 + 12) (by omega)).mono ?_
        rintro e w3 ⟨rfl, h⟩
        have HM3 := hidden h
        clear h
        go_wp2_with fail
        go_roundw
        case rel => exact ⟨j + 1, by omega, by omega, by go_num, hidden (HM3.out.more (by omega))⟩
        case measure => simp [intOf]; omega
      · have HM0 := hidden (HM.out.more (L' := 48) (by omega))
        clear HM
        go_wp2_with fail
        refine (mk_next HM0.out 4 (by omega) (by omega)).mono ?_
        rintro e w2 ⟨n, rfl, n0, n4, h, _⟩
        have HM2 := hidden h
        clear h HM0 cv
        go_wp2_with fail
        go_loopw [8] (fun i wr => ∃ j : Int, 0 ≤ j ∧ j ≤ 1 + n ∧ i = .int .i64 j ∧ Hid (MK B mb a nn c l j v al' .out j.toNat (48 + j.toNat * 7307) X wr)) (fun i _ => 5 - (intOf i).toNat)
        case atStart => exact ⟨0, Int.le_refl _, by omega, rfl, hidden (by simpa using HM2.out)⟩
        case round =>
          clear HM2
          obtain ⟨t, ht0, ht1, rfl, HM⟩ := hrel
          by_cases hlt2 : t < 1 + n
          · go_wp2_with fail
            refine (mk_digits HM.out t ht0 (by omega)).mono ?_
            rintro e w3 ⟨s, rfl, s1, h⟩
            have HM3 := hidden h
            clear h HM
            go_wp2_with fail
            have hsz : (⟨#[58, 32, 119]⟩ ++ s : ByteArray).size = 4 := by simp only [ByteArray.size_append, s1.1]; rfl
            have hgr : Gr0 (⟨#[58, 32, 119]⟩ ++ s : ByteArray).data.toList := Gr0.of (by simp only [ByteArray.data_append, Array.toList_append, List.all_append, s1.2.1]; rfl)
            have hgs : Gstep al' .out (⟨#[58, 32, 119]⟩ ++ s : ByteArray).data.toList (.inn []) := by
              obtain ⟨d, d1, d2⟩ := isD_rng s1.2.2
              simp only [ByteArray.data_append, Array.toList_append, d1]
              exact .colon d d2
            generalize (⟨#[58, 32, 119]⟩ ++ s : ByteArray) = x at hsz hgr hgs ⊢
            refine (mk_says HM3.out x hgs (by omega) (by omega) hgr (L' := 48 + t.toNat * 7307 + 5) (by omega)).mono ?_
            rintro e w4 ⟨rfl, h⟩
            have HM4 := hidden h
            clear h HM3
            go_wp2_with fail
            refine (mk_body2 _ _ _ HM4.out (by omega)).mono ?_
            rintro e w5 ⟨rfl, h⟩
            have HM5 := hidden h
            clear h HM4
            go_wp2_with fail
            refine (mk_semi HM5.out (by omega)).mono ?_
            rintro e w6 ⟨rfl, h⟩
            have ck := (mk_words h).1
            have f3 := mk_free h 3
            have HM6 := hidden h
            clear h HM5
            go_wp2_with fail
            go_roundw
            case rel => exact ⟨t + 1, by omega, by omega, by go_num, hidden ((HM6.out.setK (t + 1) ⟨by omega, by omega⟩).moreq (by omega) (by omega))⟩
            case measure => simp [intOf]; omega
          · go_wp2_with fail
            go_ret
            obtain ⟨i, s, i0, ⟨s1, s2, s3⟩, hb, _, _, _, _, _, hc⟩ := HM.out
            exact (show MadePostG _ _ _ _ _ _ _ from ⟨mb, i, s, t, v, rfl, by have := HMB.out; omega, by omega, by omega, by omega, (by rw [HAL.out]; exact s2), by omega, by rw [HAL.out]; exact hb, HFIN.out _ hc⟩)
section
variable {s : ByteArray}
end
def joinT (ts : List (List UInt8)) : List UInt8 := (ts.map (· ++ [32])).flatten
theorem joinT_append (a b : List (List UInt8)) : joinT (a ++ b) = joinT a ++ joinT b := by simp [joinT]
theorem joinT_cons (t : List UInt8) (b : List (List UInt8)) : joinT (t :: b) = t ++ 32 :: joinT b := by simp [joinT]
def tokB (t : List UInt8) : Bool := !t.isEmpty && t.all (fun b => !blk b.toNat) && !(t == [92])
def Sfx (s : ByteArray) (a : Nat) (ts : List (List UInt8)) : Prop := ∃ p z, (a = p ∨ (a + 1 = p ∧ byt s a = 32)) ∧ p ≤ s.size ∧ (z = [] ∨ z = [32]) ∧ s.data.toList.drop p ++ z = joinT ts
theorem byt_at_list (s : ByteArray) (i : Nat) (b : UInt8) (h : s.data.toList[i]? = some b) : byt s i = b.toNat ∧ i < s.size := by
  have hi : i < s.data.toList.length := (List.getElem?_eq_some_iff.1 h).1
  have hs : i < s.size := by simpa using hi
  refine ⟨?_, hs⟩
  rw [← byt_eq s i hs]
  have e := (List.getElem?_eq_some_iff.1 h).2
  simp only [Array.getElem_toList] at e
  rw [← e]; rfl
theorem nx_sfx {s : ByteArray} {a : Nat} {t : List UInt8} {ts : List (List UInt8)} (h : Sfx s a (t :: ts)) (ht : tokB t = true) : ∃ b e, nx s a = (⟨t.toArray⟩, b, e) ∧ Sfx s e ts := by
  obtain ⟨p, z, hp, hps, hz, hd⟩ := h
  rw [joinT_cons] at hd
  unfold tokB at ht
  simp only [Bool.and_eq_true, Bool.not_eq_true'] at ht
  obtain ⟨⟨t1, t2⟩, t3⟩ := ht
  have hne : 0 < t.length := by cases t <;> simp_all
  obtain ⟨D, hD⟩ : ∃ D, D = s.data.toList.drop p := ⟨_, rfl⟩
  rw [← hD] at hd
  have hDl : D.length = s.size - p := by rw [hD, List.length_drop]; rfl
  have hzl : z.length ≤ 1 := by rcases hz with rfl | rfl <;> simp
  have hlen : D.length + z.length = t.length + 1 + (joinT ts).length := by
    have := congrArg List.length hd
    simp at this
    omega
  have hg : ∀ j, j < D.length → (s.data.toList)[p + j]? = (t ++ 32 :: joinT ts)[j]? := fun j hj => by
    rw [← hd, List.getElem?_append_left hj, hD, List.getElem?_drop]
  have hin : ∀ j (hj : j < t.length), byt s (p + j) = t[j].toNat ∧ p + j < s.size := fun j hj => byt_at_list s _ _ (by rw [hg j (by omega), List.getElem?_append_left hj, List.getElem?_eq_getElem hj])
  have hbl : ∀ j (hj : j < t.length), blk (byt s (p + j)) = false := fun j hj => by
    rw [(hin j hj).1]
    have := List.all_eq_true.1 t2 t[j] (List.getElem_mem hj)
    simpa using this
  have hend : (t.length < D.length → byt s (p + t.length) = 32) ∧ p + t.length ≤ s.size := ⟨fun hl => (byt_at_list s _ 32 (by rw [hg _ hl, List.getElem?_append_right (Nat.le_refl _), Nat.sub_self]; rfl)).1, by omega⟩
  have hap : a ≤ p := by omega
  have eB : cutB s a = p := by
    refine scan_eq hap hps (fun x a1 a2 => ?_) (Or.inr ?_)
    · obtain rfl : x = a := by omega
      have : byt s x = 32 := by rcases hp with h | h <;> omega
      rw [this]; rfl
    · unfold ink
      have := hbl 0 hne
      rw [Nat.add_zero] at this
      rw [this]; rfl
  have eE : cutE s a = p + t.length := by
    unfold cutE
    rw [show scan ink s a = p from eB]
    refine scan_eq (by omega) hend.2 (fun x a1 a2 => ?_) ?_
    · have := hbl (x - p) (by omega)
      rw [show p + (x - p) = x by omega] at this
      exact this
    · rcases Nat.lt_or_ge t.length D.length with hl | hl
      · exact Or.inr (by rw [hend.1 hl]; rfl)
      · exact Or.inl (by omega)
  have hx : s.extract p (p + t.length) = ⟨t.toArray⟩ := by
    apply ByteArray.ext
    apply Array.ext'
    rw [ByteArray.data_extract, Array.toList_extract]
    show List.extract s.data.toList p (p + t.length) = t
    rw [List.extract_eq_take_drop, ← hD, Nat.add_sub_cancel_left]
    have := congrArg (List.take t.length) hd
    rw [List.take_append_of_le_length (by omega), List.take_left] at this
    exact this
  have hn : ((s.extract (cutB s a) (cutE s a)).toList == [92]) = false := by
    rw [eB, eE, hx, ba_list]; exact t3
  refine ⟨p, p + t.length, ?_, ?_⟩
  · show nextF _ _ _ = _
    cases hf : s.size - a with
    | zero => rw [nextF, eB, eE, hx]
    | succ f => rw [nextF, if_neg (by rw [hn]; exact Bool.false_ne_true), eB, eE, hx]
  · rcases Nat.lt_or_ge t.length D.length with hl | hl
    · refine ⟨p + t.length + 1, z, Or.inr ⟨rfl, hend.1 hl⟩, by omega, hz, ?_⟩
      have e1 : s.data.toList.drop (p + t.length + 1) = D.drop (t.length + 1) := by rw [hD, List.drop_drop]; rfl
      have := congrArg (List.drop (t.length + 1)) hd
      rw [List.drop_append_of_le_length (by omega)] at this
      rw [e1, this]
      simp [List.drop_append]
    · have hj : joinT ts = [] := List.length_eq_zero_iff.1 (by omega)
      refine ⟨p + t.length, [], Or.inl rfl, hend.2, Or.inl rfl, ?_⟩
      rw [hj, List.append_nil]
      exact List.drop_eq_nil_of_le (by show s.size ≤ _; omega)
theorem nx_nil {s : ByteArray} {a : Nat} (h : Sfx s a []) : ((nx s a).1.toList == []) = true := by
  obtain ⟨p, z, hp, hps, hz, hd⟩ := h
  have hz : p = s.size := by
    have := congrArg List.length hd
    simp [joinT] at this
    have e : s.data.size = s.size := rfl
    omega
  have eB : cutB s a = s.size := by
    refine scan_eq (by omega) (Nat.le_refl _) (fun x a1 a2 => ?_) (Or.inl rfl)
    obtain rfl : x = a := by omega
    have : byt s x = 32 := by rcases hp with h | h <;> omega
    rw [this]; rfl
  have eE : cutE s a = s.size := by
    unfold cutE
    rw [show scan ink s a = s.size from eB]
    exact scan_eq (Nat.le_refl _) (Nat.le_refl _) (fun x a1 a2 => by omega) (Or.inl rfl)
  have hx : s.extract s.size s.size = ⟨#[]⟩ := ByteArray.size_eq_zero_iff.1 (by simp)
  have hl : (⟨#[]⟩ : ByteArray).toList = [] := ba_list []
  have : nx s a = (⟨#[]⟩, s.size, s.size) := by
    show nextF _ _ _ = _
    cases hf : s.size - a with
    | zero => rw [nextF, eB, eE, hx]
    | succ f => rw [nextF, eB, eE, hx, if_neg (by rw [hl]; decide)]
  rw [this]
  simp only
  rw [hl]; rfl
theorem def_tok {es : List PE} {nt : Int} {s : ByteArray} {f : Nat} {tk : Int} {dc : List Int} {b : PB} {r : List PB} {kn : Inf} {a : Nat} {X : List Int × Inf × Int × Nat} {t : List UInt8} {ts : List (List UInt8)} (h : defP es nt s f tk dc (b :: r) kn a = .inl X) (hs : Sfx s a (t :: ts)) (ht : tokB t = true) :
    ∃ f' e, (stepP es nt (tk + 1) dc (b :: r) kn ⟨t.toArray⟩).1 = 0 ∧ defP es nt s f' (tk + 1) (stepP es nt (tk + 1) dc (b :: r) kn ⟨t.toArray⟩).2.1 (stepP es nt (tk + 1) dc (b :: r) kn ⟨t.toArray⟩).2.2.1 (stepP es nt (tk + 1) dc (b :: r) kn ⟨t.toArray⟩).2.2.2 e = .inl X ∧ Sfx s e ts := by
  obtain ⟨b0, e, h1, h2⟩ := nx_sfx hs ht
  cases f with
  | zero => rw [defP] at h; cases h
  | succ f =>
    rw [defP, h1] at h
    simp only at h
    split at h
    · rename_i h0
      exact ⟨f, e, h0, h, h2⟩
    · cases h
structure Eff (i : Inf) : Prop where
  n0 : 0 ≤ i.need
  n1 : i.need ≤ 1
  t : i.net = 0
  h0 : 0 ≤ i.high
  h1 : i.high ≤ 3
structure TEff (i : Inf) : Prop where
  n : i.need = 0
  h0 : 0 ≤ i.high
  h1 : i.high ≤ 4
def EOk (x : PE) : Prop := (x.var = true ∧ ∃ d, x.name.toList = [118, d]) ∨ (x.var = false ∧ (∃ d, x.name.toList = [119, d]) ∧ Eff x.inf) ∨ (x.var = false ∧ (∃ d, x.name.toList = [116, d]) ∧ TEff x.inf)
def EsOk (es : List PE) : Prop := ∀ x ∈ es, EOk x
theorem last_in {es : List PE} {s : ByteArray} {x : PE} : ∀ {n : Nat}, n ≤ es.length → lastP es s n = some x → x ∈ es ∧ x.name.toList = s.toList
  | 0, _, h => by cases h
  | n + 1, hn, h => by
    unfold lastP at h
    split at h
    · rename_i hx
      obtain rfl := Option.some.inj h
      have hl : n < es.length := by omega
      rw [List.getD_eq_getElem?_getD, List.getElem?_eq_getElem hl] at hx ⊢
      exact ⟨List.getElem_mem hl, by simpa using hx⟩
    · exact last_in (by omega) h
def notOwn (l : List UInt8) : Bool := match l with | [c, _] => c != 118 && c != 119 && c != 116 | _ => true
theorem last_no {es : List PE} (he : EsOk es) {s : ByteArray} (h : notOwn s.toList = true) : lastP es s es.length = none := by
  cases hl : lastP es s es.length with
  | none => rfl
  | some x =>
    exfalso
    obtain ⟨h1, h2⟩ := last_in (Nat.le_refl _) hl
    rw [← h2] at h
    rcases he x h1 with ⟨_, d, e⟩ | ⟨_, ⟨d, e⟩, _⟩ | ⟨_, ⟨d, e⟩, _⟩ <;> (rw [e] at h; simp [notOwn] at h)
theorem last_own {es : List PE} (he : EsOk es) {s : ByteArray} {d : UInt8} (hs : s.toList = [119, d]) {x : PE} (h : lastP es s es.length = some x) : x.var = false ∧ Eff x.inf := by
  obtain ⟨h1, h2⟩ := last_in (Nat.le_refl _) h
  rw [hs] at h2
  rcases he x h1 with ⟨_, d', e⟩ | ⟨hv, _, hf⟩ | ⟨_, ⟨d', e⟩, _⟩
  · rw [h2] at e; simp at e
  · exact ⟨hv, hf⟩
  · rw [h2] at e; simp at e
theorem last_task {es : List PE} (he : EsOk es) {s : ByteArray} {d : UInt8} (hs : s.toList = [116, d]) {x : PE} (h : lastP es s es.length = some x) : x.var = false ∧ TEff x.inf := by
  obtain ⟨h1, h2⟩ := last_in (Nat.le_refl _) h
  rw [hs] at h2
  rcases he x h1 with ⟨_, d', e⟩ | ⟨_, ⟨d', e⟩, _⟩ | ⟨hv, _, hf⟩
  · rw [h2] at e; simp at e
  · rw [h2] at e; simp at e
  · exact ⟨hv, hf⟩
def free (l : List UInt8) : Bool := !(l == []) && !(l == [58]) && !(l == [118, 97, 114, 105, 97, 98, 108, 101]) && !(l == [59]) && !(l == [105, 102]) && !(l == [101, 108, 115, 101]) && !(l == [116, 104, 101, 110]) && !(l == [100, 111]) && !(l == [108, 111, 111, 112])
theorem step_free {es : List PE} {nt tk : Int} {dc : List Int} {b : PB} {r : List PB} {kn : Inf} {s : ByteArray} (h : free s.toList = true) : stepP es nt tk dc (b :: r) kn s = if (numP s).2 = true then (0, dc ++ [28, (numP s).1], { b.add (opInf 28) with numbers := min (b.numbers + 1) 2, a0 := b.a1, a1 := (numP s).1 } :: r, kn) else stepW es dc b r kn s := by
  unfold free at h
  simp only [Bool.and_eq_true, Bool.not_eq_true'] at h
  obtain ⟨⟨⟨⟨⟨⟨⟨⟨h1, h2⟩, h3⟩, h4⟩, h5⟩, h6⟩, h7⟩, h8⟩, h9⟩ := h
  unfold stepP
  simp only [h1, h2, h3, h4, h5, h6, h7, h8, h9, Bool.false_eq_true, if_false]
structure Bt (b b' : PB) (i : Inf) : Prop where
  d : b'.does = b.does.then i
  o : b'.opener = b.opener
  u : b'.other = b.other
def plainE (t : ByteArray) : Option Inf := if free t.toList && notOwn t.toList then (if (numP t).2 = true then some (opInf 28) else match opFind t with | some k => some (opInf k) | none => none) else none
theorem step_plain {es : List PE} (he : EsOk es) {nt tk : Int} {dc : List Int} {b : PB} {r : List PB} {kn : Inf} {t : ByteArray} {i : Inf} (h : plainE t = some i) (h0 : (stepP es nt tk dc (b :: r) kn t).1 = 0) : ∃ b', (stepP es nt tk dc (b :: r) kn t).2.2.1 = b' :: r ∧ (stepP es nt tk dc (b :: r) kn t).2.2.2 = kn ∧ Bt b b' i := by
  unfold plainE at h
  split at h
  · rename_i hf
    rw [Bool.and_eq_true] at hf
    rw [step_free hf.1] at h0 ⊢
    split at h
    · rename_i hn
      obtain rfl := Option.some.inj h
      rw [if_pos hn]
      exact ⟨_, rfl, rfl, rfl, rfl, rfl⟩
    · rename_i hn
      rw [if_neg hn] at h0 ⊢
      unfold stepW at h0 ⊢
      rw [last_no he hf.2] at h0 ⊢
      simp only at h0 ⊢
      cases hk : opFind t with
      | none => rw [hk] at h; cases h
      | some k =>
        rw [hk] at h h0
        obtain rfl := Option.some.inj h
        simp only at h0 ⊢
        split at h0
        · simp at h0
        · rename_i hc
          rw [if_neg hc]
          exact ⟨_, rfl, rfl, rfl, rfl, rfl⟩
  · cases h
abbrev F3 := Int × Int × Int
def then3 (a : F3) (i : Inf) : F3 := (max a.1 (i.need - a.2.1), a.2.1 + i.net, max a.2.2 (a.2.1 + i.high))
def f3 (i : Inf) : F3 := (i.need, i.net, i.high)
theorem f3_then (a i : Inf) : f3 (a.then i) = then3 (f3 a) i := rfl
theorem f3_fold : ∀ (l : List Inf) (a : Inf), f3 (l.foldl Inf.then a) = l.foldl then3 (f3 a)
  | [], _ => rfl
  | i :: l, a => by rw [List.foldl_cons, List.foldl_cons, f3_fold l, f3_then]
theorem fold3 : ∀ (l : List Inf) (a b : F3), 0 ≤ a.1 → 0 ≤ a.2.2 → 0 ≤ b.1 → 0 ≤ b.2.2 → l.foldl then3 (max a.1 (b.1 - a.2.1), a.2.1 + b.2.1, max a.2.2 (a.2.1 + b.2.2)) = (max a.1 ((l.foldl then3 b).1 - a.2.1), a.2.1 + (l.foldl then3 b).2.1, max a.2.2 (a.2.1 + (l.foldl then3 b).2.2))
  | [], a, b, _, _, _, _ => rfl
  | i :: l, a, b, h1, h2, h3, h4 => by
    rw [List.foldl_cons, List.foldl_cons]
    have e : then3 (max a.1 (b.1 - a.2.1), a.2.1 + b.2.1, max a.2.2 (a.2.1 + b.2.2)) i = (max a.1 ((then3 b i).1 - a.2.1), a.2.1 + (then3 b i).2.1, max a.2.2 (a.2.1 + (then3 b i).2.2)) := by
      simp only [then3, Prod.mk.injEq]
      refine ⟨?_, ?_, ?_⟩ <;> omega
    rw [e]
    exact fold3 l a (then3 b i) h1 h2 (by simp only [then3]; omega) (by simp only [then3]; omega)
def effL (l : List Inf) : Bool := decide ((l.foldl then3 (0, 0, 0)).1 ≤ 1) && decide ((l.foldl then3 (0, 0, 0)).2.1 = 0) && decide ((l.foldl then3 (0, 0, 0)).2.2 ≤ 3)
theorem eff_fold {l : List Inf} {a : Inf} (h : effL l = true) (ha : Eff a) : Eff (l.foldl Inf.then a) := by
  unfold effL at h
  simp only [Bool.and_eq_true, decide_eq_true_eq] at h
  obtain ⟨⟨h1, h2⟩, h3⟩ := h
  have e := fold3 l (f3 a) (0, 0, 0) ha.n0 ha.h0 (Int.le_refl _) (Int.le_refl _)
  have hz : ((max (f3 a).1 ((0 : Int) - (f3 a).2.1), (f3 a).2.1 + 0, max (f3 a).2.2 ((f3 a).2.1 + 0)) : F3) = f3 a := by
    have := ha.n0
    have := ha.t
    have := ha.h0
    simp only [f3]
    refine Prod.ext ?_ (Prod.ext ?_ ?_) <;> simp only <;> omega
  rw [hz, ← f3_fold] at e
  have e1 := congrArg Prod.fst e
  have e2 := congrArg (fun x => x.2.1) e
  have e3 := congrArg (fun x => x.2.2) e
  simp only [f3] at e1 e2 e3
  have := ha.n0
  have := ha.n1
  have := ha.t
  have := ha.h0
  have := ha.h1
  exact ⟨by omega, by omega, by omega, by omega, by omega⟩
theorem eff_zero : Eff Inf.zero := ⟨by decide, by decide, rfl, by decide, by decide⟩
def infT (ts : List (List UInt8)) : List Inf := ts.filterMap fun t => plainE ⟨t.toArray⟩
def quietT (al : Bool) (t : List UInt8) : Bool := !al || (!(t == [64]) && !(t == [33]) && !(t == [105, 110]))
def plainG (al : Bool) (ts : List (List UInt8)) : Bool := ts.all (fun t => tokB t && (plainE ⟨t.toArray⟩).isSome && quietT al t)
def rng (d : UInt8) : Prop := 48 ≤ d.toNat ∧ d.toNat ≤ 57
inductive GT (al : Bool) : St → List (List UInt8) → St → Prop
  | var (d : UInt8) (h : rng d) : GT al .out [[118, 97, 114, 105, 97, 98, 108, 101], [118, d]] .out
  | colon (d : UInt8) (h : rng d) : GT al .out [[58], [119, d]] (.inn [])
  | plain {fs : List Nat} (ts : List (List UInt8)) (h : plainG al ts = true) (he : effL (infT ts) = true) : GT al (.inn fs) ts (.inn fs)
  | word {fs : List Nat} (d : UInt8) (h : rng d) : GT al (.inn fs) [[119, d]] (.inn fs)
  | iff {fs : List Nat} : GT al (.inn fs) [[100, 117, 112], [51], [62], [105, 102]] (.inn (0 :: fs))
  | els {fs : List Nat} : GT al (.inn (0 :: fs)) [[101, 108, 115, 101]] (.inn (1 :: fs))
  | thn0 {fs : List Nat} : GT al (.inn (0 :: fs)) [[116, 104, 101, 110]] (.inn fs)
  | thn1 {fs : List Nat} : GT al (.inn (1 :: fs)) [[116, 104, 101, 110]] (.inn fs)
  | doo {fs : List Nat} (d e : UInt8) (h : rng d) (h2 : rng e) : GT al (.inn fs) [[d], [e], [100, 111]] (.inn (2 :: fs))
  | loop {fs : List Nat} : GT al (.inn (2 :: fs)) [[105], [43], [108, 111, 111, 112]] (.inn fs)
  | semi : GT al (.inn []) [[59]] .out
def split32 : List UInt8 → List UInt8 → List (List UInt8)
  | cur, [] => [cur]
  | cur, b :: r => if b = 32 then cur :: split32 [] r else split32 (cur ++ [b]) r
theorem evens_ok : ∀ al, (evens.all fun t => plainG al (split32 [] t.data.toList) && effL (infT (split32 [] t.data.toList)) && (joinT (split32 [] t.data.toList) == t.data.toList ++ [32])) = true := by decide +kernel
theorem others_ok : (others.all fun t => plainG false (split32 [] t.data.toList) && effL (infT (split32 [] t.data.toList)) && (joinT (split32 [] t.data.toList) == t.data.toList ++ [32])) = true := by decide +kernel
theorem Gstep.toks {al : Bool} {st st' : St} {g : List UInt8} (h : Gstep al st g st') : ∃ ts, GT al st ts st' ∧ joinT ts = g ++ [32] := by
  cases h with
  | var d h => exact ⟨_, .var d h, rfl⟩
  | colon d h => exact ⟨_, .colon d h, rfl⟩
  | even h =>
    have := List.all_eq_true.1 (evens_ok al) _ h
    simp only [Bool.and_eq_true, beq_iff_eq] at this
    exact ⟨_, .plain _ this.1.1 this.1.2, this.2⟩
  | other ha h =>
    subst ha
    have := List.all_eq_true.1 others_ok _ h
    simp only [Bool.and_eq_true, beq_iff_eq] at this
    exact ⟨_, .plain _ this.1.1 this.1.2, this.2⟩
  | word d h => exact ⟨_, .word d h, rfl⟩
  | iff => exact ⟨_, .iff, rfl⟩
  | els => exact ⟨_, .els, rfl⟩
  | thn0 => exact ⟨_, .thn0, rfl⟩
  | thn1 => exact ⟨_, .thn1, rfl⟩
  | doo d e h h2 => exact ⟨_, .doo d e h h2, rfl⟩
  | loop => exact ⟨_, .loop, rfl⟩
  | semi => exact ⟨_, .semi, rfl⟩
inductive Fwd (al : Bool) : St → List (List (List UInt8)) → Prop
  | nil : Fwd al .out []
  | cons {st st' : St} {ts : List (List UInt8)} {L : List (List (List UInt8))} (h : GT al st ts st') (hl : Fwd al st' L) : Fwd al st (ts :: L)
theorem Tx.fwd {al : Bool} {st : St} {gs : List (List UInt8)} (h : Tx al st gs) : ∀ L, Fwd al st L → ∃ L', Fwd al .out L' ∧ joinT L'.flatten = (gs.map (· ++ [32])).flatten ++ joinT L.flatten := by
  induction h with
  | nil => exact fun L hL => ⟨L, hL, by simp⟩
  | snoc h hg ih =>
    intro L hL
    obtain ⟨ts, h1, h2⟩ := hg.toks
    obtain ⟨L', h3, h4⟩ := ih _ (.cons h1 hL)
    refine ⟨L', h3, ?_⟩
    rw [h4, List.flatten_cons, joinT_append, h2]
    simp
theorem TextG.fwd {al : Bool} {s : ByteArray} (h : TextG al .out s) : ∃ L, Fwd al .out L ∧ Sfx s 0 L.flatten := by
  obtain ⟨_, gs, h1, h2⟩ := h
  obtain ⟨L, h3, h4⟩ := h1.fwd [] .nil
  exact ⟨L, h3, 0, [], Or.inl rfl, Nat.zero_le _, Or.inl rfl, by rw [List.drop_zero, h2, h4]; simp [joinT]⟩
section
variable {es : List PE} {nt : Int} {s : ByteArray} {f : Nat} {tk : Int} {dc : List Int} {b : PB} {r : List PB} {kn : Inf} {a : Nat} {X : List Int × Inf × Int × Nat}
theorem read_plain {al : Bool} (he : EsOk es) {rest : List (List UInt8)} : ∀ (ts : List (List UInt8)), plainG al ts = true → ∀ (f : Nat) (tk : Int) (dc : List Int) (b : PB) (a : Nat), defP es nt s f tk dc (b :: r) kn a = .inl X → Sfx s a (ts ++ rest) → ∃ f' tk' dc' b' e, defP es nt s f' tk' dc' (b' :: r) kn e = .inl X ∧ Sfx s e rest ∧ b'.does = (infT ts).foldl Inf.then b.does ∧ b'.opener = b.opener ∧ b'.other = b.other
  | [], _, f, tk, dc, b, a, h, hs => ⟨f, tk, dc, b, a, h, hs, rfl, rfl, rfl⟩
  | t :: ts, hp, f, tk, dc, b, a, h, hs => by
    unfold plainG at hp
    rw [List.all_cons, Bool.and_eq_true, Bool.and_eq_true, Bool.and_eq_true] at hp
    obtain ⟨⟨⟨p1, p2⟩, p3⟩, p4⟩ := hp
    obtain ⟨i, hi⟩ := Option.isSome_iff_exists.1 p2
    obtain ⟨f1, e1, h0, h1, h2⟩ := def_tok h hs p1
    obtain ⟨b1, k1, k2, k3⟩ := step_plain he hi h0
    rw [k1, k2] at h1
    obtain ⟨f', tk', dc', b', e, q1, q2, q3, q4, q5⟩ := read_plain he ts p4 f1 _ _ b1 e1 h1 h2
    refine ⟨f', tk', dc', b', e, q1, q2, ?_, q4.trans k3.o, q5.trans k3.u⟩
    rw [q3, k3.d]
    unfold infT
    rw [List.filterMap_cons, hi]
    rfl
def InvB : List Nat → List PB → Prop
  | [], [b] => b.opener = 34 ∧ Eff b.does
  | 0 :: fs, b :: r => b.opener = 29 ∧ Eff b.does ∧ b.other = Inf.zero ∧ InvB fs r
  | 1 :: fs, b :: r => b.opener = 30 ∧ Eff b.does ∧ Eff b.other ∧ InvB fs r
  | 2 :: fs, b :: r => b.opener = 31 ∧ Eff b.does ∧ InvB fs r
  | _, _ => False
theorem invB_n {b : PB} (h1 : b.opener = 34) (h2 : Eff b.does) : InvB [] [b] := ⟨h1, h2⟩
theorem invB_0 {fs : List Nat} {b : PB} {r : List PB} (h1 : b.opener = 29) (h2 : Eff b.does) (h3 : b.other = Inf.zero) (h4 : InvB fs r) : InvB (0 :: fs) (b :: r) := ⟨h1, h2, h3, h4⟩
theorem invB_1 {fs : List Nat} {b : PB} {r : List PB} (h1 : b.opener = 30) (h2 : Eff b.does) (h3 : Eff b.other) (h4 : InvB fs r) : InvB (1 :: fs) (b :: r) := ⟨h1, h2, h3, h4⟩
theorem invB_2 {fs : List Nat} {b : PB} {r : List PB} (h1 : b.opener = 31) (h2 : Eff b.does) (h4 : InvB fs r) : InvB (2 :: fs) (b :: r) := ⟨h1, h2, h4⟩
theorem InvB.top : ∀ {fs : List Nat} {bl : List PB}, InvB fs bl → ∃ b r, bl = b :: r ∧ Eff b.does ∧ ∀ b', b'.opener = b.opener → b'.other = b.other → Eff b'.does → InvB fs (b' :: r)
  | [], [b], h => ⟨b, [], rfl, h.2, fun b' h1 _ h3 => ⟨h1.trans h.1, h3⟩⟩
  | 0 :: fs, b :: r, h => ⟨b, r, rfl, h.2.1, fun b' h1 h2 h3 => ⟨h1.trans h.1, h3, h2.trans h.2.2.1, h.2.2.2⟩⟩
  | 1 :: fs, b :: r, h => ⟨b, r, rfl, h.2.1, fun b' h1 h2 h3 => ⟨h1.trans h.1, h3, by rw [h2]; exact h.2.2.1, h.2.2.2⟩⟩
  | 2 :: fs, b :: r, h => ⟨b, r, rfl, h.2.1, fun b' h1 h2 h3 => ⟨h1.trans h.1, h3, h.2.2⟩⟩
  | [], [], h => h.elim
  | [], _ :: _ :: _, h => h.elim
  | _ :: _, [], h => by rename_i x y; cases x with | zero => exact h.elim | succ x => cases x with | zero => exact h.elim | succ x => cases x with | zero => exact h.elim | succ x => exact h.elim
  | (n + 3) :: fs, b :: r, h => h.elim
end
section
variable {es : List PE} {nt tk : Int} {dc : List Int} {b c : PB} {r : List PB} {kn : Inf}
theorem stp_if : stepP es nt tk dc (b :: r) kn ⟨#[105, 102]⟩ = (0, dc ++ [29, 0], PB.opened { PB.zero with opener := 29 } (b.add (opInf 29)) (dc.length + 2) :: b.add (opInf 29) :: r, kn) := by
  unfold stepP
  simp only
  rw [if_neg (by decide +kernel), if_neg (by decide +kernel), if_neg (by decide +kernel), if_neg (by decide +kernel), if_pos (by decide +kernel)]
theorem stp_else (h : b.opener = 29) : stepP es nt tk dc (b :: c :: r) kn ⟨#[101, 108, 115, 101]⟩ = (0, (dc ++ [30, 0]).set b.hole.toNat (dc.length + 2), PB.opened { PB.zero with opener := 30, other := b.does.then (opInf 30) } c (dc.length + 2) :: c :: r, kn) := by
  unfold stepP
  simp only
  rw [if_neg (by decide +kernel), if_neg (by decide +kernel), if_neg (by decide +kernel), if_neg (by decide +kernel), if_neg (by decide +kernel), if_pos (by decide +kernel), if_pos h]
theorem stp_then (h : b.opener = 29 ∨ b.opener = 30) (hn : b.does.net = b.other.net) : stepP es nt tk dc (b :: c :: r) kn ⟨#[116, 104, 101, 110]⟩ = (0, dc.set b.hole.toNat dc.length, c.add (b.does.orP b.other) :: r, kn) := by
  unfold stepP
  simp only
  rw [if_neg (by decide +kernel), if_neg (by decide +kernel), if_neg (by decide +kernel), if_neg (by decide +kernel), if_neg (by decide +kernel), if_neg (by decide +kernel), if_pos (by decide +kernel), if_pos h, if_pos hn]
theorem stp_do (h : (stepP es nt tk dc (b :: r) kn ⟨#[100, 111]⟩).1 = 0) : stepP es nt tk dc (b :: r) kn ⟨#[100, 111]⟩ = (0, dc ++ [31, 0], PB.opened { PB.zero with opener := 31, times := max 0 (b.a0 - b.a1) } (b.add (opInf 31)) (dc.length + 2) :: b.add (opInf 31) :: r, kn) := by
  unfold stepP at h ⊢
  simp only at h ⊢
  rw [if_neg (by decide +kernel), if_neg (by decide +kernel), if_neg (by decide +kernel), if_neg (by decide +kernel), if_neg (by decide +kernel), if_neg (by decide +kernel), if_neg (by decide +kernel), if_pos (by decide +kernel)] at h ⊢
  split at h
  · simp at h
  · rename_i h1
    split at h
    · simp at h
    · rename_i h2
      rw [if_neg h1, if_neg h2]
theorem stp_loop (h : b.opener = 31) (hn : b.does.net = 0) : stepP es nt tk dc (b :: c :: r) kn ⟨#[108, 111, 111, 112]⟩ = (0, (dc ++ [32, (b.hole.toNat : Int) + 1]).set b.hole.toNat (dc.length + 2), c.add ((b.does.then (opInf 32)).timesP b.times) :: r, kn) := by
  unfold stepP
  simp only
  rw [if_neg (by decide +kernel), if_neg (by decide +kernel), if_neg (by decide +kernel), if_neg (by decide +kernel), if_neg (by decide +kernel), if_neg (by decide +kernel), if_neg (by decide +kernel), if_neg (by decide +kernel), if_pos (by decide +kernel), if_pos h, if_pos hn]
theorem stp_semi (h : b.opener = 34) : stepP es nt tk dc (b :: r) kn ⟨#[59]⟩ = (endErr (b.does.then (opInf 34)).steps nt tk, dc ++ [34], [], b.does.then (opInf 34)) := by
  unfold stepP
  simp only
  rw [if_neg (by decide +kernel), if_neg (by decide +kernel), if_neg (by decide +kernel), if_pos (by decide +kernel), if_pos h]
theorem stp_own (he : EsOk es) {t : ByteArray} {d : UInt8} (ht : t.toList = [119, d]) (hn : (numP t).2 = false) (ho : opFind t = none) (h : (stepP es nt tk dc (b :: r) kn t).1 = 0) : ∃ y : PE, y.var = false ∧ Eff y.inf ∧ stepP es nt tk dc (b :: r) kn t = (0, dc ++ [y.op, y.place], b.add y.use :: r, kn) := by
  have hf : free t.toList = true := by
    rw [ht]
    unfold free
    simp
  rw [step_free hf, if_neg (by rw [hn]; decide)] at h ⊢
  unfold stepW at h ⊢
  cases hl : lastP es t es.length with
  | none => rw [hl, ho] at h; simp at h
  | some y =>
    obtain ⟨e1, e2⟩ := last_own he ht hl
    exact ⟨y, e1, e2, rfl⟩
end
theorem effq_then {a i : Inf} (ha : Eff a) (hi : Eff i) : Eff (a.then i) := by
  have := ha.n0; have := ha.n1; have := ha.t; have := ha.h0; have := ha.h1
  have := hi.n0; have := hi.n1; have := hi.t; have := hi.h0; have := hi.h1
  exact ⟨by simp only [Inf.then]; omega, by simp only [Inf.then]; omega, by simp only [Inf.then]; omega, by simp only [Inf.then]; omega, by simp only [Inf.then]; omega⟩
theorem effq_or {a i : Inf} (ha : Eff a) (hi : Eff i) : Eff (a.orP i) := by
  have := ha.n0; have := ha.n1; have := ha.t; have := ha.h0; have := ha.h1
  have := hi.n0; have := hi.n1; have := hi.t; have := hi.h0; have := hi.h1
  unfold Inf.orP
  exact ⟨by simp only; omega, by simp only; omega, by simp only; omega, by simp only; omega, by simp only; omega⟩
theorem effq_times {a : Inf} {n : Int} (ha : Eff a) : Eff (a.timesP n) := by
  unfold Inf.timesP
  split
  · exact ⟨Int.le_refl _, (show (0 : Int) ≤ 1 by decide), rfl, Int.le_refl _, (show (0 : Int) ≤ 3 by decide)⟩
  · exact ⟨ha.n0, ha.n1, ha.t, ha.h0, ha.h1⟩
theorem eff_op : ∀ k, k = 30 ∨ k = 32 ∨ k = 33 ∨ k = 34 → Eff (opInf k) := by
  rintro k (rfl | rfl | rfl | rfl) <;> exact ⟨by decide +kernel, by decide +kernel, by decide +kernel, by decide +kernel, by decide +kernel⟩
theorem digit_plain : ∀ d : UInt8, rng d → plainE ⟨[d].toArray⟩ = some (opInf 28) ∧ tokB [d] = true := by
  have h : ∀ k : Nat, k < 10 → (plainE ⟨[UInt8.ofNat (48 + k)].toArray⟩).isSome = true ∧ (numP ⟨[UInt8.ofNat (48 + k)].toArray⟩).2 = true ∧ (free [UInt8.ofNat (48 + k)] && notOwn [UInt8.ofNat (48 + k)]) = true ∧ tokB [UInt8.ofNat (48 + k)] = true := by decide +kernel
  intro d hd
  obtain ⟨h1, h2⟩ := hd
  obtain ⟨k, hk, e⟩ : ∃ k : Nat, k < 10 ∧ d = UInt8.ofNat (48 + k) := ⟨d.toNat - 48, by omega, by rw [show 48 + (d.toNat - 48) = d.toNat by omega]; simp⟩
  rw [e]
  obtain ⟨_, a2, a3, a4⟩ := h k hk
  refine ⟨?_, a4⟩
  unfold plainE
  rw [ba_list, if_pos a3, if_pos a2]
theorem name_plain : ∀ d : UInt8, rng d → ∀ x : UInt8, (x = 119 ∨ x = 116 ∨ x = 118) → (numP ⟨[x, d].toArray⟩).2 = false ∧ opFind ⟨[x, d].toArray⟩ = none ∧ tokB [x, d] = true := by
  have h : ∀ k : Nat, k < 10 → ∀ x : UInt8, x ∈ [(119 : UInt8), 116, 118] → (numP ⟨[x, UInt8.ofNat (48 + k)].toArray⟩).2 = false ∧ opFind ⟨[x, UInt8.ofNat (48 + k)].toArray⟩ = none ∧ tokB [x, UInt8.ofNat (48 + k)] = true := by decide +kernel
  intro d hd x hx
  obtain ⟨h1, h2⟩ := hd
  obtain ⟨k, hk, e⟩ : ∃ k : Nat, k < 10 ∧ d = UInt8.ofNat (48 + k) := ⟨d.toNat - 48, by omega, by rw [show 48 + (d.toNat - 48) = d.toNat by omega]; simp⟩
  rw [e]
  exact h k hk x (by simpa using hx)
section
variable {es : List PE} {nt : Int} {s : ByteArray}
theorem read_body {al : Bool} (he : EsOk es) {X : List Int × Inf × Int × Nat} : ∀ (L : List (List (List UInt8))) (fs : List Nat) (f : Nat) (tk : Int) (dc : List Int) (bl : List PB) (kn : Inf) (a : Nat), Fwd al (.inn fs) L → InvB fs bl → Sfx s a L.flatten → defP es nt s f tk dc bl kn a = .inl X → Eff X.2.1 ∧ ∃ L', Fwd al .out L' ∧ Sfx s X.2.2.2 L'.flatten ∧ L'.length < L.length := by
  intro L
  induction L with
  | nil => intro fs f tk dc bl kn a h; cases h
  | cons ts L ih =>
    intro fs f tk dc bl kn a hF hI hS hD
    have fin : ∀ (fs : List Nat) (f : Nat) (tk : Int) (dc : List Int) (bl : List PB) (kn : Inf) (a : Nat), Fwd al (.inn fs) L → InvB fs bl → Sfx s a L.flatten → defP es nt s f tk dc bl kn a = .inl X → Eff X.2.1 ∧ ∃ L', Fwd al .out L' ∧ Sfx s X.2.2.2 L'.flatten ∧ L'.length < (ts :: L).length := fun fs f tk dc bl kn a h1 h2 h3 h4 => by
      obtain ⟨q1, L', q2, q3, q4⟩ := ih fs f tk dc bl kn a h1 h2 h3 h4
      exact ⟨q1, L', q2, q3, by simp; omega⟩
    rw [List.flatten_cons] at hS
    cases hF with
    | cons hg hL =>
      cases hg with
      | plain ts hp he' =>
        obtain ⟨b, r, rfl, hb, hnew⟩ := hI.top
        obtain ⟨f', tk', dc', b', e, q1, q2, q3, q4, q5⟩ := read_plain he ts hp f tk dc b a hD hS
        exact fin fs f' tk' dc' _ kn e hL (hnew b' q4 q5 (by rw [q3]; exact eff_fold he' hb)) q2 q1
      | word d hd =>
        obtain ⟨b, r, rfl, hb, hnew⟩ := hI.top
        obtain ⟨n1, n2, n3⟩ := name_plain d hd 119 (Or.inl rfl)
        obtain ⟨f1, e1, h0, h1, h2⟩ := def_tok hD hS n3
        obtain ⟨y, y1, y2, y3⟩ := stp_own he (ba_list _) n1 n2 h0
        rw [y3] at h1
        refine fin fs _ _ _ _ kn _ hL (hnew (b.add y.use) rfl rfl ?_) h2 h1
        show Eff (b.does.then y.use)
        unfold PE.use
        rw [if_neg (by rw [y1]; decide)]
        exact effq_then hb (effq_then (eff_op 33 (by decide)) y2)
      | iff =>
        obtain ⟨b, r, rfl, hb, hnew⟩ := hI.top
        obtain ⟨f', tk', dc', b', e, q1, q2, q3, q4, q5⟩ := read_plain (al := false) he [[100, 117, 112], [51], [62]] (by decide +kernel) f tk dc b a hD hS
        obtain ⟨f1, e1, h0, h1, h2⟩ := def_tok q1 q2 (by decide +kernel)
        rw [show (⟨[105, 102].toArray⟩ : ByteArray) = ⟨#[105, 102]⟩ from rfl, stp_if] at h1
        refine fin (0 :: fs) _ _ _ _ kn _ hL (invB_0 rfl eff_zero rfl (hnew (b'.add (opInf 29)) q4 q5 ?_)) h2 h1
        show Eff (b'.does.then (opInf 29))
        rw [q3]
        exact eff_fold (l := infT [[100, 117, 112], [51], [62]] ++ [opInf 29]) (by decide +kernel) hb |> fun h => by rw [List.foldl_append] at h; exact h
      | els =>
        rename_i fs'
        cases bl with
        | nil => exact hI.elim
        | cons b r =>
          obtain ⟨i1, i2, i3, i4⟩ := hI
          obtain ⟨c, r', rfl, hc, _⟩ := i4.top
          obtain ⟨f1, e1, h0, h1, h2⟩ := def_tok hD hS (by decide +kernel)
          rw [show (⟨[101, 108, 115, 101].toArray⟩ : ByteArray) = ⟨#[101, 108, 115, 101]⟩ from rfl, stp_else i1] at h1
          exact fin (1 :: fs') _ _ _ _ kn _ hL (invB_1 rfl eff_zero (effq_then i2 (eff_op 30 (by decide))) i4) h2 h1
      | thn0 =>
        cases bl with
        | nil => exact hI.elim
        | cons b r =>
          obtain ⟨i1, i2, i3, i4⟩ := hI
          obtain ⟨c, r', rfl, hc, hnew⟩ := i4.top
          obtain ⟨f1, e1, h0, h1, h2⟩ := def_tok hD hS (by decide +kernel)
          rw [show (⟨[116, 104, 101, 110].toArray⟩ : ByteArray) = ⟨#[116, 104, 101, 110]⟩ from rfl, stp_then (Or.inl i1) (by rw [i2.t, i3]; rfl)] at h1
          refine fin _ _ _ _ _ kn _ hL (hnew (c.add (b.does.orP b.other)) rfl rfl ?_) h2 h1
          exact effq_then hc (effq_or i2 (by rw [i3]; exact eff_zero))
      | thn1 =>
        cases bl with
        | nil => exact hI.elim
        | cons b r =>
          obtain ⟨i1, i2, i3, i4⟩ := hI
          obtain ⟨c, r', rfl, hc, hnew⟩ := i4.top
          obtain ⟨f1, e1, h0, h1, h2⟩ := def_tok hD hS (by decide +kernel)
          rw [show (⟨[116, 104, 101, 110].toArray⟩ : ByteArray) = ⟨#[116, 104, 101, 110]⟩ from rfl, stp_then (Or.inr i1) (by rw [i2.t, i3.t])] at h1
          refine fin _ _ _ _ _ kn _ hL (hnew (c.add (b.does.orP b.other)) rfl rfl ?_) h2 h1
          exact effq_then hc (effq_or i2 i3)
      | doo d e hd he2 =>
        obtain ⟨b, r, rfl, hb, hnew⟩ := hI.top
        obtain ⟨d1, d2⟩ := digit_plain d hd
        obtain ⟨e1, e2⟩ := digit_plain e he2
        have hpl : plainG false [[d], [e]] = true := by
          simp only [plainG, List.all_cons, List.all_nil, Bool.and_true, d1, d2, e1, e2, Option.isSome_some, quietT, Bool.not_false, Bool.true_or, Bool.and_self]
        obtain ⟨f', tk', dc', b', p, q1, q2, q3, q4, q5⟩ := read_plain (al := false) he [[d], [e]] hpl f tk dc b a hD hS
        obtain ⟨f1, p1, h0, h1, h2⟩ := def_tok q1 q2 (by decide +kernel)
        rw [show (⟨[100, 111].toArray⟩ : ByteArray) = ⟨#[100, 111]⟩ from rfl] at h0 h1
        rw [stp_do h0] at h1
        refine fin (2 :: fs) _ _ _ _ kn _ hL (invB_2 rfl eff_zero (hnew (b'.add (opInf 31)) q4 q5 ?_)) h2 h1
        show Eff (b'.does.then (opInf 31))
        have hinf : infT [[d], [e]] = [opInf 28, opInf 28] := by
          unfold infT
          rw [List.filterMap_cons, d1, List.filterMap_cons, e1]
          rfl
        rw [q3, hinf]
        exact eff_fold (l := [opInf 28, opInf 28] ++ [opInf 31]) (by decide +kernel) hb |> fun h => by rw [List.foldl_append] at h; exact h
      | loop =>
        cases bl with
        | nil => exact hI.elim
        | cons b r =>
          obtain ⟨i1, i2, i4⟩ := hI
          obtain ⟨f', tk', dc', b', p, q1, q2, q3, q4, q5⟩ := read_plain (al := false) he [[105], [43]] (by decide +kernel) f tk dc b a hD hS
          obtain ⟨c, r', rfl, hc, hnew⟩ := i4.top
          obtain ⟨f1, e1, h0, h1, h2⟩ := def_tok q1 q2 (by decide +kernel)
          have hb' : Eff b'.does := by rw [q3]; exact eff_fold (by decide +kernel) i2
          rw [show (⟨[108, 111, 111, 112].toArray⟩ : ByteArray) = ⟨#[108, 111, 111, 112]⟩ from rfl, stp_loop (q4.trans i1) hb'.t] at h1
          refine fin _ _ _ _ _ kn _ hL (hnew (c.add ((b'.does.then (opInf 32)).timesP b'.times)) rfl rfl ?_) h2 h1
          exact effq_then hc (effq_times (effq_then hb' (eff_op 32 (by decide))))
      | semi =>
        cases bl with
        | nil => exact hI.elim
        | cons b r =>
          cases r with
          | cons _ _ => exact hI.elim
          | nil =>
            obtain ⟨i1, i2⟩ := hI
            obtain ⟨f1, e1, h0, h1, h2⟩ := def_tok hD hS (by decide +kernel)
            rw [show (⟨[59].toArray⟩ : ByteArray) = ⟨#[59]⟩ from rfl, stp_semi i1] at h1
            cases f1 with
            | zero => rw [defP] at h1; cases h1
            | succ f1 =>
              rw [defP] at h1
              injection h1 with h1
              rw [← h1]
              exact ⟨effq_then i2 (eff_op 34 (by decide)), L, hL, h2, by simp⟩
end
theorem def_err {es : List PE} {nt : Int} {s : ByteArray} {E P : Int} : ∀ {f : Nat} {tk : Int} {dc : List Int} {bl : List PB} {kn : Inf} {a : Nat}, defP es nt s f tk dc bl kn a = .inr (E, P) → E ≠ 0
  | 0, _, _, _, _, _, h => by
    rw [defP] at h
    injection h with h
    injection h with h1 h2
    rw [← h1]; decide
  | f + 1, tk, dc, [], kn, a, h => by rw [defP] at h; cases h
  | f + 1, tk, dc, b :: r, kn, a, h => by
    rw [defP] at h
    split at h
    · exact def_err h
    · rename_i h0
      injection h with h
      injection h with h1 h2
      rw [← h1]; exact h0
theorem read_all {al : Bool} {s : ByteArray} : ∀ (n : Nat) (L : List (List (List UInt8))) (f a : Nat) (es : List PE) (nv nt : Int) (code : List Int), L.length ≤ n → Fwd al .out L → Sfx s a L.flatten → EsOk es → EsOk (loadP s f a es nv nt code).2.1 := by
  intro n
  induction n with
  | zero =>
    intro L f a es nv nt code hn hF hS he
    obtain rfl : L = [] := List.length_eq_zero_iff.1 (by omega)
    cases f with
    | zero => exact he
    | succ f =>
      rw [loadP, if_pos (nx_nil (by simpa using hS))]
      exact he
  | succ n ih =>
    intro L f a es nv nt code hn hF hS he
    cases f with
    | zero => exact he
    | succ f =>
      cases hF with
      | nil =>
        rw [loadP, if_pos (nx_nil (by simpa using hS))]
        exact he
      | cons hg hL =>
        rw [List.flatten_cons] at hS
        cases hg with
        | var d hd =>
          obtain ⟨b1, e1, h1, h2⟩ := nx_sfx hS (by decide +kernel)
          obtain ⟨_, _, n3⟩ := name_plain d hd 118 (Or.inr (Or.inr rfl))
          obtain ⟨b2, e2, h3, h4⟩ := nx_sfx h2 n3
          rw [loadP, h1]
          simp only
          rw [if_neg (by decide +kernel), if_pos (by decide +kernel), h3]
          simp only
          have hv : EsOk (varP es nv s e1).2.1 := by
            unfold varP
            rw [h3]
            simp only
            split
            · split
              · exact he
              · intro x hx
                rcases List.mem_append.1 hx with hx | hx
                · exact he x hx
                · rw [List.mem_singleton.1 hx]
                  exact Or.inl ⟨rfl, d, ba_list _⟩
            · exact he
          split
          · exact ih _ f _ _ _ _ _ (by simpa using hn) hL h4 hv
          · exact hv
        | colon d hd =>
          obtain ⟨b1, e1, h1, h2⟩ := nx_sfx hS (by decide +kernel)
          obtain ⟨_, _, n3⟩ := name_plain d hd 119 (Or.inl rfl)
          obtain ⟨b2, e2, h3, h4⟩ := nx_sfx h2 n3
          rw [loadP, h1]
          simp only
          rw [if_neg (by decide +kernel), if_neg (by decide +kernel), if_pos (by decide +kernel)]
          unfold wordP
          rw [h3]
          simp only
          split
          · rename_i hr
            cases hd2 : defP es nt s (s.size + 2) 2 code [PB.first] Inf.zero e2 with
            | inr q =>
              obtain ⟨E, P⟩ := q
              simp only
              split
              · rename_i h0
                exact absurd h0 (def_err hd2)
              · exact he
            | inl q =>
              obtain ⟨dc, kn, tk, a'⟩ := q
              simp only
              obtain ⟨q1, L', q2, q3, q4⟩ := read_body he _ [] _ _ _ _ _ _ hL (invB_n rfl eff_zero) h4 hd2
              have he2 : EsOk (es ++ [⟨⟨[119, d].toArray⟩, false, code.length, kn⟩]) := by
                intro x hx
                rcases List.mem_append.1 hx with hx | hx
                · exact he x hx
                · rw [List.mem_singleton.1 hx]
                  exact Or.inr (Or.inl ⟨rfl, ⟨d, ba_list _⟩, q1⟩)
              rw [if_pos trivial]
              exact ih L' f _ _ _ _ _ (by simp at hn; omega) q2 q3 he2
          · rename_i hr
            exact he
theorem made_words {al : Bool} {s : ByteArray} (h : TextG al .out s) : EsOk (loadR s [] 0 0 []).2.1 := by
  unfold loadR
  split
  · exact fun x hx => by cases hx
  · obtain ⟨L, h1, h2⟩ := h.fwd
    exact read_all _ L _ 0 [] 0 0 [] (Nat.le_refl _) h1 h2 (fun x hx => by cases hx)
def taskT (c d k : UInt8) : List UInt8 := [58, 32, 116, c, 32, d, 32, 119, k, 32, 100, 114, 111, 112, 32, 59]
theorem drop_plain : plainE ⟨[100, 114, 111, 112].toArray⟩ = some (opInf 17) ∧ tokB [100, 114, 111, 112] = true := ⟨by kernel_rfl, by decide +kernel⟩
theorem opInf_vals : (opInf 28).need = 0 ∧ (opInf 28).net = 1 ∧ (opInf 28).high = 1 ∧ (opInf 17).need = 1 ∧ (opInf 17).net = -1 ∧ (opInf 17).high = 0 ∧ (opInf 33).need = 0 ∧ (opInf 33).net = 0 ∧ (opInf 33).high = 0 ∧ (opInf 34).need = 0 ∧ (opInf 34).net = 0 ∧ (opInf 34).high = 0 := by decide +kernel
theorem task_words {es : List PE} (he : EsOk es) {c d k : UInt8} (hc : rng c) (hd : rng d) (hk : rng k) {s : ByteArray} (hs : s.data.toList = taskT c d k) (nv nt : Int) (code : List Int) : EsOk (loadR s es nv nt code).2.1 ∧ ((loadR s es nv nt code).2.1 = es ∨ ∃ x : PE, (loadR s es nv nt code).2.1 = es ++ [x] ∧ x.name.toList = [116, c]) := by
  unfold loadR
  split
  · exact ⟨he, Or.inl rfl⟩
  · have hS : Sfx s 0 ([[58], [116, c], [d], [119, k], [100, 114, 111, 112], [59]]) := ⟨0, [32], Or.inl rfl, Nat.zero_le _, Or.inr rfl, by rw [List.drop_zero, hs]; rfl⟩
    obtain ⟨b1, e1, h1, h2⟩ := nx_sfx hS (by decide +kernel)
    obtain ⟨_, _, n3⟩ := name_plain c hc 116 (Or.inr (Or.inl rfl))
    obtain ⟨b2, e2, h3, h4⟩ := nx_sfx h2 n3
    rw [loadP, h1]
    simp only
    rw [if_neg (by decide +kernel), if_neg (by decide +kernel), if_pos (by decide +kernel)]
    unfold wordP
    rw [h3]
    simp only
    split
    · rename_i hr
      cases hd2 : defP es nt s (s.size + 2) 2 code [PB.first] Inf.zero e2 with
      | inr q =>
        obtain ⟨E, P⟩ := q
        simp only
        split
        · rename_i h0
          exact absurd h0 (def_err hd2)
        · exact ⟨he, Or.inl rfl⟩
      | inl q =>
        obtain ⟨dc, kn, tk, a'⟩ := q
        simp only
        rw [if_pos trivial]
        have key : TEff kn ∧ Sfx s a' [] := by
          obtain ⟨d1, d2⟩ := digit_plain d hd
          have hpl : plainG false [[d]] = true := by
            simp only [plainG, List.all_cons, List.all_nil, Bool.and_true, d1, d2, Option.isSome_some, quietT, Bool.not_false, Bool.true_or, Bool.and_self]
          obtain ⟨f', tk', dc', b', p, q1, q2, q3, q4, q5⟩ := read_plain (al := false) (rest := [[119, k], [100, 114, 111, 112], [59]]) he [[d]] hpl _ _ _ _ _ hd2 h4
          obtain ⟨n1, n2, n3⟩ := name_plain k hk 119 (Or.inl rfl)
          obtain ⟨f1, p1, g0, g1, g2⟩ := def_tok q1 q2 n3
          obtain ⟨y, y1, y2, y3⟩ := stp_own he (ba_list _) n1 n2 g0
          rw [y3] at g1
          obtain ⟨m1, m2⟩ := drop_plain
          obtain ⟨f2, p2, v0, v1, v2⟩ := def_tok g1 g2 m2
          obtain ⟨b2, w1, w2, w3⟩ := step_plain he m1 v0
          rw [w1, w2] at v1
          obtain ⟨f3, p3, x0, x1, x2⟩ := def_tok v1 v2 (by decide +kernel)
          have ho : b2.opener = 34 := by rw [w3.o]; show (b'.add y.use).opener = 34; exact q4
          rw [show (⟨[59].toArray⟩ : ByteArray) = ⟨#[59]⟩ from rfl, stp_semi ho] at x1
          cases f3 with
          | zero => rw [defP] at x1; cases x1
          | succ f3 =>
            rw [defP] at x1
            injection x1 with x1
            injection x1 with z1 z2
            injection z2 with z2 z3
            injection z3 with z3 z4
            refine ⟨?_, by rw [← z4]; exact x2⟩
            have hinf : infT [[d]] = [opInf 28] := by
              unfold infT
              rw [List.filterMap_cons, d1]
              rfl
            have hb2 : b2.does = ((Inf.zero.then (opInf 28)).then y.use).then (opInf 17) := by
              rw [w3.d]
              show ((b'.does.then y.use).then (opInf 17)) = _
              rw [q3, hinf]; rfl
            have hu : y.use = (opInf 33).then y.inf := by unfold PE.use; rw [if_neg (by rw [y1]; decide)]
            rw [hb2, hu] at z2
            obtain ⟨o1, o2, o3, o4, o5, o6, o7, o8, o9, o10, o11, o12⟩ := opInf_vals
            have := y2.n0; have := y2.n1; have := y2.t; have := y2.h0; have := y2.h1
            rw [← z2]
            constructor <;> simp only [Inf.then, Inf.zero] <;> omega
        obtain ⟨t1, t2⟩ := key
        have he2 : EsOk (es ++ [⟨⟨[116, c].toArray⟩, false, code.length, kn⟩]) := by
          intro x hx
          rcases List.mem_append.1 hx with hx | hx
          · exact he x hx
          · rw [List.mem_singleton.1 hx]
            exact Or.inr (Or.inr ⟨rfl, ⟨c, ba_list _⟩, t1⟩)
        have hnil := nx_nil t2
        have hsz : s.size ≠ 0 := by
          have : s.size = s.data.toList.length := by simp
          rw [this, hs]; simp [taskT]
        obtain ⟨g, hg⟩ : ∃ g, s.size = g + 1 := ⟨s.size - 1, by omega⟩
        rw [hg, loadP, if_pos hnil]
        exact ⟨he2, Or.inr ⟨_, rfl, ba_list _⟩⟩
    · exact ⟨he, Or.inl rfl⟩
end Go.Proofs.YtcphhbofjkenaaaGreatDoor
