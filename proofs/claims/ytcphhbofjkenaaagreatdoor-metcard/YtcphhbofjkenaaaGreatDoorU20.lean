import Derived.Laws.CopyRow
import Derived.Test.YtcphhbofjkenaaaGreatDoorU19
namespace Go.Proofs.YtcphhbofjkenaaaGreatDoor
set_option maxRecDepth 100000
set_option maxHeartbeats 16000000
open Go Go.RowKit
set_option linter.unusedVariables false
set_option linter.unusedSimpArgs false
attribute [local go_sem] quietG
def StkAt (cs : Array Value) : List Int → Prop
 | [] => True
 | x :: r => cs[r.length]? = some (.int .i64 x) ∧ StkAt cs r
theorem StkAt.congr {cs cs' : Array Value} : ∀ {s : List Int}, StkAt cs s → (∀ i, i < s.length → cs'[i]? = cs[i]?) → StkAt cs' s
 | [], _, _ => trivial
 | x :: r, h, he => ⟨(he r.length (by simp)).trans h.1, h.2.congr (fun i hi => he i (by simp; omega))⟩
structure MC (cs : Array Value) (s : List Int) : Prop where
 size : cs.size = 39
 stk : StkAt cs s
 dep : cs[32]? = some (.int .i64 s.length)
 le : s.length ≤ 32
 any : ∀ i, i < 32 → ∃ z : Int, cs[i]? = some (.int .i64 z)
def Rest (cs cs' : Array Value) : Prop := ∀ i, 33 ≤ i → cs'[i]? = cs[i]?
theorem MC.pop {cs : Array Value} {x : Int} {s : List Int} (h : MC cs (x :: s)) : MC (cs.setIfInBounds 32 (.int .i64 s.length)) s ∧ Rest cs (cs.setIfInBounds 32 (.int .i64 s.length)) := by
 have hl := h.le
 simp at hl
 refine ⟨⟨by simp [h.size], h.stk.2.congr (fun i hi => ?_), ?_, by omega, fun i hi => ?_⟩, fun i hi => ?_⟩
 ·rw [Array.getElem?_setIfInBounds_ne (by omega)]
 ·rw [Array.getElem?_setIfInBounds_self_of_lt (by rw [h.size]; omega)]
 ·rw [Array.getElem?_setIfInBounds_ne (by omega)]; exact h.any i hi
 ·rw [Array.getElem?_setIfInBounds_ne (by omega)]
theorem mach_take {w : World} {mb : Nat} {cs : Array Value} {x : Int} {s : List Int} (hb : Blk w mb cs 116) (h : MC cs (x :: s)) :
  Calls Tryz.prog 108 #[.pointer (some ⟨mb, 0, none⟩)] w fun e w' => e = .returned (.int .i64 x) ∧ ∃ cs', Blk w' mb cs' 116 ∧ MC cs' s ∧ Rest cs cs' ∧ Chg (fun b => b = mb) w w' := by
 have c32 : w.cell? ⟨mb, 32, none⟩ = some (.int .i64 ((s.length : Int) + 1)) := by have := hb.cell 32 _ h.dep; simpa using this
 have f32 := hb.frozen 32
 have hl := h.le
 simp at hl
 obtain ⟨X, hX⟩ : ∃ X : World, X = w.setCell ⟨mb, 32, none⟩ (.int .i64 s.length) := ⟨_, rfl⟩
 obtain ⟨hp, hr⟩ := h.pop
 have hkX : Blk X mb (cs.setIfInBounds 32 (.int .i64 s.length)) 116 := by rw [hX]; exact hb.set (o := 32) _
 have x32 : X.cell? ⟨mb, 32, none⟩ = some (.int .i64 s.length) := hkX.cell 32 _ hp.dep
 have xs : X.cell? ⟨mb, s.length, none⟩ = some (.int .i64 x) := hkX.cell s.length _ (by rw [Array.getElem?_setIfInBounds_ne (by omega)]; exact h.stk.1)
 have hcX : Chg (fun b => b = mb) w X := by rw [hX]; exact (Chg.refl (fun b => b = mb) w).setCell (p := ⟨mb, 32, none⟩) rfl _
 have hmX := hkX.lt
 have hmw := hb.lt
 have HX := hidden hX; have HKX := hidden hkX; have HCX := hidden hcX; have HP := hidden (And.intro hp hr)
 have hs0 : (0 : Int) ≤ (s.length : Int) := by omega
 have hs1 : (s.length : Int) < 32 := by omega
 clear hX hkX hcX hp hr h hb
 go_enter Tryz.func108, Tryz.ntmps108
 go_upto_region 2 with fail
 rw [← HX.out]
 clear c32 f32
 go_wp2_with fail
 go_quiet (fail)
 go_wp2_with fail
 go_ret
 have hbq : Below X.heap.size X (X.drewN nq) := ⟨rfl, rfl, rfl, Nat.le_refl _, fun _ _ => rfl⟩
 exact ⟨rfl, _, HKX.out.sub hbq HKX.out.lt, HP.out.1, HP.out.2, HCX.out.trans (Chg.ofBelow hbq)⟩
theorem mach_top {w : World} {mb : Nat} {cs : Array Value} {x : Int} {s : List Int} (hb : Blk w mb cs 116) (h : MC cs (x :: s)) :
  Calls Tryz.prog 139 #[.pointer (some ⟨mb, 0, none⟩)] w fun e w' => e = .returned (.int .i64 x) ∧ Below w.heap.size w w' := by
 have c32 : w.cell? ⟨mb, 32, none⟩ = some (.int .i64 ((s.length : Int) + 1)) := by have := hb.cell 32 _ h.dep; simpa using this
 have hl := h.le
 simp at hl
 have xs : w.cell? ⟨mb, s.length, none⟩ = some (.int .i64 x) := hb.cell s.length _ h.stk.1
 have hmw := hb.lt
 have hs0 : (0 : Int) ≤ (s.length : Int) := by omega
 have hs1 : (s.length : Int) < 32 := by omega
 clear h hb
 go_enter Tryz.func139, Tryz.ntmps139
 go_wp2_with fail
 go_quiet (fail)
 go_wp2_with fail
 go_ret
 exact ⟨rfl, ⟨rfl, rfl, rfl, Nat.le_refl _, fun _ _ => rfl⟩⟩
theorem StkAt.put {cs : Array Value} : ∀ (ys s : List Int), StkAt cs s → (∀ i y, ys[i]? = some y → cs[s.length + i]? = some (.int .i64 y)) → StkAt cs (ys.reverse ++ s)
 | [], s, h, _ => h
 | y :: l, s, h, hy => by
  have h1 : StkAt cs (y :: s) := ⟨hy 0 y rfl, h⟩
  have := StkAt.put l (y :: s) h1 (fun i z hz => by
   have := hy (i + 1) z hz
   rw [List.length_cons, Nat.add_assoc, Nat.add_comm 1 i]; exact this)
  simpa using this
def putC (cs : Array Value) (d : Nat) (ys : List Int) : Array Value := (cs.toList.take d ++ (ys.map (Value.int .i64)) ++ cs.toList.drop (d + ys.length)).toArray
theorem putC_get (cs : Array Value) (d : Nat) (ys : List Int) (i : Nat) (h : d + ys.length ≤ cs.size) : (putC cs d ys)[i]? = if i < d then cs[i]? else if i < d + ys.length then (ys.map (Value.int .i64))[i - d]? else cs[i]? := by
 unfold putC
 rw [List.getElem?_toArray]
 have h1 : (cs.toList.take d).length = d := by rw [List.length_take, Array.length_toList]; omega
 split
 ·rename_i hi
  rw [List.append_assoc, List.getElem?_append_left (by omega), List.getElem?_take, if_pos hi, Array.getElem?_toList]
 ·rename_i hi
  split
  ·rename_i h2
   rw [List.append_assoc, List.getElem?_append_right (by omega), h1, List.getElem?_append_left (by simp; omega)]
  ·rename_i h2
   rw [List.getElem?_append_right (by rw [List.length_append, h1]; simp; omega), List.length_append, h1, List.length_map, List.getElem?_drop, Array.getElem?_toList]
   congr 1; omega
theorem MC.push {cs : Array Value} {s : List Int} (h : MC cs s) (ys : List Int) (hy : s.length + ys.length ≤ 32) :
  MC ((putC cs s.length ys).setIfInBounds 32 (.int .i64 ((s.length : Int) + ys.length))) (ys.reverse ++ s) ∧ Rest cs ((putC cs s.length ys).setIfInBounds 32 (.int .i64 ((s.length : Int) + ys.length))) := by
 have hs := h.size
 have hsz : (putC cs s.length ys).size = 39 := by unfold putC; simp [hs]; omega
 have hg := fun i => putC_get cs s.length ys i (by omega)
 refine ⟨⟨by simp [hsz], ?_, ?_, by simp; omega, fun i hi => ?_⟩, fun i hi => ?_⟩
 ·refine StkAt.put ys s (h.stk.congr (fun i hi => ?_)) (fun i y hi => ?_)
  ·rw [Array.getElem?_setIfInBounds_ne (by omega), hg, if_pos hi]
  ·have hil := (List.getElem?_eq_some_iff.1 hi).1
   rw [Array.getElem?_setIfInBounds_ne (by omega), hg, if_neg (by omega), if_pos (by omega), Nat.add_sub_cancel_left, List.getElem?_map, hi]; rfl
 ·rw [Array.getElem?_setIfInBounds_self_of_lt (by rw [hsz]; omega)]; simp; omega
 ·rw [Array.getElem?_setIfInBounds_ne (by omega), hg]
  split
  ·exact h.any i hi
  ·split
   ·rename_i h1 h2
    obtain ⟨y, hy⟩ : ∃ y, ys[i - s.length]? = some y := ⟨_, List.getElem?_eq_getElem (by omega)⟩
    exact ⟨y, by rw [List.getElem?_map, hy]; rfl⟩
   ·exact h.any i hi
 ·rw [Array.getElem?_setIfInBounds_ne (by omega), hg, if_neg (by omega), if_neg (by omega)]
theorem sz_int : (Tryz.prog.info? 3).map (·.size) = some 1 := by kernel_rfl
theorem mach_put {w : World} {mb lb cap : Nat} {cs : Array Value} {s : List Int} (ys : List Int) (hb : Blk w mb cs 116) (h : MC cs s) (h32 : s.length < 32) (hy : s.length + ys.length ≤ 32) (hlb : lb ≠ mb) (hll : lb < w.heap.size) (hcap : ys.length ≤ cap)
  (hl : ∀ (i : Nat) (y : Int), ys[i]? = some y → w.cell? ⟨lb, i, none⟩ = some (.int .i64 y)) :
  Calls Tryz.prog 106 #[.pointer (some ⟨mb, 0, none⟩), .slice (some ⟨lb, 0, none⟩) ys.length cap] w fun e w' => e = .returned (.tuple #[]) ∧ ∃ cs', Blk w' mb cs' 116 ∧ MC cs' (ys.reverse ++ s) ∧ Rest cs cs' ∧ Chg (fun b => b = mb) w w' := by
 have c32 : w.cell? ⟨mb, 32, none⟩ = some (.int .i64 s.length) := hb.cell 32 _ h.dep
 obtain ⟨hp, hr⟩ := h.push ys hy
 have hsz := h.size
 have hmw := hb.lt
 have hs0 : (0 : Int) ≤ (s.length : Int) := by omega
 have hs1 : (s.length : Int) ≤ 32 := by omega
 have hs2 : ¬ 32 = s.length := by omega
 have hcp := run_copy_row (P := Tryz.prog) w.drew 24 24 3 3 mb s.length (32 - s.length) (32 - s.length) ⟨lb, 0, none⟩ ys.length cap cs 116 (ys.map (Value.int .i64)) Tryz.underlying24 sz_int hb (by rw [List.length_map]; exact (Nat.min_eq_left (by omega)).symm) (fun j v hj => by
  rw [List.getElem?_map] at hj
  obtain ⟨y, hy1, rfl⟩ := Option.map_eq_some_iff.1 hj
  rw [Addr.add_lit, Nat.zero_add]
  exact hl j y hy1) (by rw [List.length_map]; omega) (fun v hv => by
  obtain ⟨y, _, rfl⟩ := List.mem_map.1 hv; rfl)
 rw [List.length_map] at hcp
 obtain ⟨X, hX⟩ : ∃ X : World, X = w.drew.setRow mb (putC cs s.length ys) := ⟨_, rfl⟩
 have hcp' : (Builtin.copy_ #[24, 24] 3 #[.slice (some ⟨mb, s.length, none⟩) (32 - s.length) (32 - s.length), .slice (some ⟨lb, 0, none⟩) ys.length cap]).run Tryz.prog w.drew = .ok (.int .i64 ys.length) X := by rw [hX]; exact hcp
 have hkX : Blk X mb (putC cs s.length ys) 116 := by rw [hX]; exact setRow_heap w.drew mb _ _ _ _ hb
 have hcX : Chg (fun b => b = mb) w X := by rw [hX]; exact (Chg.refl (fun b => b = mb) w).drew.trans ⟨rfl, rfl, rfl, by simp [World.setRow], fun k hk hne => setRow_other w.drew mb k _ (fun e => hne e)⟩
 have x32 : X.cell? ⟨mb, 32, none⟩ = some (.int .i64 s.length) := hkX.cell 32 _ (by
  rw [putC_get cs s.length ys 32 (by omega), if_neg (by omega), if_neg (by omega)]; exact h.dep)
 have k0 : ∀ u : {w' : World // w' = w.drew ∨ w' = X}, u.val.cell? ⟨mb, 32, none⟩ = some (.int .i64 s.length) := fun u => by
  rcases u.property with e | e
  ·rw [e]; exact c32
  ·rw [e]; exact x32
 have hne : Nonempty {w' : World // w' = w.drew ∨ w' = X} := ⟨⟨X, Or.inr rfl⟩⟩
 have HP := hidden (And.intro hp hr); have HKX := hidden hkX; have HCX := hidden hcX; have HCP := hidden hcp'
 have hfz := hkX.frozen 32
 have hX32 := hkX.lt
 clear hcp hcp' hX hkX hcX h hb hp hr c32 hl
 go_enter Tryz.func106, Tryz.ntmps106
 refine wp_region_turns (C := OneOf fun w' => w' = w.drew ∨ w' = X) 15 [13] ⟨w.drew, Or.inl rfl⟩ (by kernel_rfl) (by kernel_rfl) rfl ?_
 rw [show List.range 15 = [0, 1, 2, 3, 4, 5, 6, 7, 8, 9, 10, 11, 12, 13, 14] from rfl]
 repeat (refine wpT_step rfl rfl (fun K hK => ?_); go_simp; refine hK _ ?_; clear hK K)
 have hcp := HCP.out
 refine wpT_turn1 rfl rfl (.int .i64 ys.length) X (Or.inr rfl) (Or.inl (by go_simp)) ?_
 clear hcp HCP
 repeat (refine wpT_step rfl rfl (fun K hK => ?_); go_simp; refine hK _ ?_; clear hK K)
 refine wpT_end ?_
 intro w' hw'
 rw [show w' = X from hw']
 clear hw' w' k0 hne
 simp only [List.drop_succ_cons, List.drop_zero]
 go_wp2_with fail
 go_end0
 exact ⟨rfl, _, HKX.out.set (o := 32) _, HP.out.1, HP.out.2, HCX.out.setCell (p := ⟨mb, 32, none⟩) rfl _⟩
end Go.Proofs.YtcphhbofjkenaaaGreatDoor
namespace Go.Proofs.YtcphhbofjkenaaaGreatDoor
set_option maxRecDepth 100000
set_option maxHeartbeats 16000000
open Go Go.RowKit
set_option linter.unusedVariables false
set_option linter.unusedSimpArgs false
theorem Tryz.infoIn : (Tryz.prog.info? 3).map (fun i => (i.zero, i.size, i.bytes)) = some (some (.int .i64 0), 1, 8) := by kernel_rfl
theorem Tryz.infoLo : (Tryz.prog.info? 237).map (fun i => (i.zero, i.size, i.bytes)) = some (some (.agg #[.int .i64 0, .int .i64 0]), 2, 16) := by kernel_rfl
theorem newsM (W : World) (x : Array Value) (t : TypeId) : ∀ (j : Nat) (u : Value), x.toList[j]? = some u → (W.alloc (.cells x t (0, 0))).cell? ((Addr.mk W.heap.size 0 none).add j) = some u := World.news_of_block (fr := (0, 0)) (heap_alloc_new W _)
theorem ownsRow_pop {w : World} {base : Nat} {e : TypeId} {size g n cap : Nat} {xs ys : List Value} (h : w.ownsRow base e size (.slice (some ⟨g, 0, none⟩) (n + 1) cap) (n + 1) (xs ++ ys)) (hl : xs.length = n * size) : w.ownsRow base e size (.slice (some ⟨g, 0, none⟩) n cap) n xs := by
 refine ⟨hl, ?_⟩
 rcases h.2 with ⟨h0, _⟩ | ⟨g', cap', cur, hv, h1, h2, h3, h4, h5, h6⟩
 ·cases h0
 ·obtain ⟨rfl, rfl⟩ : g = g' ∧ cap = cap' := by simpa using hv
  refine Or.inr ⟨g, cap, cur, rfl, h1, h2, by omega, h4, h5, ?_⟩
  have e : (xs ++ ys).take (n * size) = xs := by rw [List.take_append_of_le_length (by omega), List.take_of_length_le (by omega)]
  have := congrArg (List.take (n * size)) h6
  rw [List.take_take, Nat.min_eq_left (Nat.mul_le_mul_right _ (by omega)), e] at this
  exact this
abbrev ints (l : List Int) : List Value := l.map (Value.int .i64)
abbrev IRow (B : Nat) (w : World) (v : Value) (l : List Int) : Prop := w.ownsRow B 3 1 v l.length (ints l)
abbrev LRow (B : Nat) (w : World) (v : Value) (l : List (Int × Int)) : Prop := w.ownsRow B 237 2 v l.length (l.flatMap fun x => [.int .i64 x.1, .int .i64 x.2])
theorem loops_len (l : List (Int × Int)) : (l.flatMap fun x => [Value.int .i64 x.1, .int .i64 x.2]).length = l.length * 2 := flat_length (fun x : Int × Int => [Value.int .i64 x.1, .int .i64 x.2]) 2 (fun _ => rfl) l
section
variable {w : World} {wp : Nat} {vv ov iv : Value}
theorem world_has {va : Option Addr} {n vc : Nat} (hb : Blk w wp #[.slice va n vc, ov, iv] 118) (x : Int) (hn : n ≤ 1000) :
  Calls Tryz.prog 138 #[.pointer (some ⟨wp, 0, none⟩), .int .i64 x] w fun e w' => e = .returned (.bool (decide (0 ≤ x ∧ x < n))) ∧ w' = w := by
 have c0 : w.cell? ⟨wp, 0, none⟩ = some (.slice va n vc) := hb.cell 0 _ rfl
 have hl := hb.lt
 obtain ⟨R, hR⟩ : ∃ R, R = decide (0 ≤ x ∧ x < (n : Int)) := ⟨_, rfl⟩
 rw [← hR]
 clear hb
 by_cases h0 : 0 ≤ x
 ·by_cases h1 : x < (n : Int)
  ·have HR : Hid (R = true) := by show R = true; rw [hR]; exact decide_eq_true ⟨h0, h1⟩
   clear hR
   go_enter Tryz.func138, Tryz.ntmps138
   go_wp2_with fail
   rw [HR.out]
   go_ret
   exact ⟨rfl, rfl⟩
  ·have HR : Hid (R = false) := by show R = false; rw [hR]; exact decide_eq_false (fun h => h1 h.2)
   clear hR
   go_enter Tryz.func138, Tryz.ntmps138
   go_wp2_with fail
   rw [HR.out]
   go_ret
   exact ⟨rfl, rfl⟩
 ·have HR : Hid (R = false) := by show R = false; rw [hR]; exact decide_eq_false (fun h => h0 h.1)
  clear hR
  go_enter Tryz.func138, Tryz.ntmps138
  go_wp2_with fail
  rw [HR.out]
  go_ret
  exact ⟨rfl, rfl⟩
theorem irow_cell {B : Nat} {g n cap : Nat} {l : List Int} (h : w.ownsRow B 3 1 (.slice (some ⟨g, 0, none⟩) n cap) n (ints l)) {i : Nat} {x : Int} (hx : l[i]? = some x) (hn : 0 < n) : w.cell? ⟨g, i, none⟩ = some (.int .i64 x) := by
 obtain ⟨g', cap', hv, _, _, _, _, hc⟩ := row_cells h hn
 obtain ⟨rfl, rfl⟩ : g = g' ∧ cap = cap' := by simpa using hv
 exact hc i _ (by rw [List.getElem?_map, hx]; rfl)
theorem world_fetch {B : Nat} {l : List Int} (hb : Blk w wp #[vv, ov, iv] 118) (hv : IRow B w vv l) (i : Nat) (hi : i < l.length) (hl : l.length ≤ 1000) :
  Calls Tryz.prog 143 #[.pointer (some ⟨wp, 0, none⟩), .int .i64 i] w fun e w' => e = .returned (.int .i64 (l.getD i 0)) ∧ w' = w := by
 obtain ⟨g, cap, rfl, _, hg, hc, _, _⟩ := row_cells hv (by omega)
 have c0 : w.cell? ⟨wp, 0, none⟩ = some (.slice (some ⟨g, 0, none⟩) l.length cap) := hb.cell 0 _ rfl
 have c1 := irow_cell hv (i := i) (x := l.getD i 0) (by simp [hi]) (by omega)
 have hlt := hb.lt
 obtain ⟨x, hx⟩ : ∃ x, x = l.getD i 0 := ⟨_, rfl⟩
 rw [← hx] at c1 ⊢
 obtain ⟨n, hn⟩ : ∃ n, n = l.length := ⟨_, rfl⟩
 rw [← hn] at c0 hi hl hc
 have hii : (i : Int) < (n : Int) := by omega
 have hi0 : (0 : Int) ≤ (i : Int) := by omega
 clear hb hv hx hn
 go_enter Tryz.func143, Tryz.ntmps143
 go_wp2_with fail
 go_ret
 exact ⟨rfl, rfl⟩
theorem world_store {B : Nat} {l : List Int} (hb : Blk w wp #[vv, ov, iv] 118) (hv : IRow B w vv l) (i : Nat) (x : Int) (hi : i < l.length) (hl : l.length ≤ 1000) :
  Calls Tryz.prog 144 #[.pointer (some ⟨wp, 0, none⟩), .int .i64 i, .int .i64 x] w fun e w' => e = .returned (.tuple #[]) ∧ IRow B w' vv (l.set i x) ∧ Chg (fun b => vv.ownBlock = some b) w w' := by
 obtain ⟨g, cap, rfl, _, hg, hc, _, _⟩ := row_cells hv (by omega)
 have c0 : w.cell? ⟨wp, 0, none⟩ = some (.slice (some ⟨g, 0, none⟩) l.length cap) := hb.cell 0 _ rfl
 have c1 := irow_cell hv (i := i) (x := l.getD i 0) (by simp [hi]) (by omega)
 have f1 : w.frozen? ⟨g, i, none⟩ = false := by
  rcases hv.2 with ⟨h0, _⟩ | ⟨g', cap', cur, hv', _, hh, _⟩
  ·cases h0
  ·obtain ⟨rfl, rfl⟩ : g = g' ∧ cap = cap' := by simpa using hv'
   simp [World.frozen?, hh]
 have hlt := hb.lt
 obtain ⟨y, hy⟩ : ∃ x, x = l.getD i 0 := ⟨_, rfl⟩
 rw [← hy] at c1
 have HV := hidden hv
 obtain ⟨n, hn⟩ : ∃ n, n = l.length := ⟨_, rfl⟩
 rw [← hn] at c0 hi hl hc
 have hii : (i : Int) < (n : Int) := by omega
 have hi0 : (0 : Int) ≤ (i : Int) := by omega
 have HN := hidden hn
 clear hb hv hy hn
 rw [← HN.out]
 go_enter Tryz.func144, Tryz.ntmps144
 go_wp2_with fail
 go_end0
 refine ⟨rfl, ?_, (Chg.refl (fun b => (Value.slice (some ⟨g, 0, none⟩) n cap).ownBlock = some b) w).setCell (p := ⟨g, i, none⟩) rfl _⟩
 have := ownsRow_set HV.out i (.int .i64 x)
 rw [← List.map_set] at this
 show World.ownsRow _ _ _ _ _ _ _
 rw [List.length_set, HN.out]
 exact this
def InsAt (B : Nat) (w : World) (iv : Value) (l : List Int) : Prop :=
 (l = [] ∧ ∃ a c, iv = .slice a 0 c) ∨ ∃ pb po c, iv = .slice (some ⟨pb, po, none⟩) l.length c ∧ l.length ≤ c ∧ pb < B ∧ ∀ (j : Nat) (y : Int), l[j]? = some y → w.cell? ⟨pb, po + j, none⟩ = some (.int .i64 y)
theorem InsAt.below {B : Nat} {w w' : World} {iv : Value} {l : List Int} (h : InsAt B w iv l) (hb : Below B w w') : InsAt B w' iv l := by
 rcases h with h | ⟨pb, po, c, h1, h2, h3, h4⟩
 ·exact Or.inl h
 ·exact Or.inr ⟨pb, po, c, h1, h2, h3, fun j y hy => by rw [hb.cell (p := ⟨pb, po + j, none⟩) h3]; exact h4 j y hy⟩
theorem world_next {B : Nat} {l : List Int} (hb : Blk w wp #[vv, ov, iv] 118) (hi : InsAt B w iv l) (hB : B ≤ wp) (hl : l.length ≤ 20000000000000) :
  Calls Tryz.prog 145 #[.pointer (some ⟨wp, 0, none⟩)] w fun e w' => e = .returned (.int .i64 (l.headD 0)) ∧ ∃ iv', Blk w' wp #[vv, ov, iv'] 118 ∧ InsAt B w' iv' l.tail ∧ Chg (fun b => b = wp) w w' := by
 have hlt := hb.lt
 cases l with
 | nil =>
  obtain ⟨a, c, rfl⟩ : ∃ a c, iv = .slice a 0 c := by
   rcases hi with ⟨_, h⟩ | ⟨pb, po, c, h, _⟩
   ·exact h
   ·exact ⟨_, _, h⟩
  have c2 : w.cell? ⟨wp, 2, none⟩ = some (.slice a 0 c) := hb.cell 2 _ rfl
  have HB := hidden hb
  clear hb hi
  go_enter Tryz.func145, Tryz.ntmps145
  go_wp2_with fail
  go_ret
  exact ⟨rfl, _, HB.out, Or.inl ⟨rfl, _, _, rfl⟩, Chg.refl _ _⟩
 | cons x r =>
  obtain ⟨pb, po, c, rfl, h2, h3, h4⟩ := hi.resolve_left (fun h => by cases h.1)
  have c2 : w.cell? ⟨wp, 2, none⟩ = some (.slice (some ⟨pb, po, none⟩) (x :: r).length c) := hb.cell 2 _ rfl
  have p0 : w.cell? ⟨pb, po, none⟩ = some (.int .i64 x) := by have := h4 0 x rfl; simpa using this
  have f2 := hb.frozen 2
  simp only [List.length_cons] at h2 c2 hl
  obtain ⟨n, hn⟩ : ∃ n, n = r.length := ⟨_, rfl⟩
  rw [← hn] at h2 c2 hl
  have HB := hidden hb; have H4 := hidden h4; have HN := hidden hn
  have hz : (((n : Int) + 1) == 0) = false := by simp; omega
  have hz2 : (((n + 1 : Nat) : Int) == 0) = false := by simp; omega
  have hpl : pb < w.heap.size := by omega
  clear hb hi h4 hn
  by_cases hc1 : c = 1
  ·subst hc1
   obtain rfl : n = 0 := by omega
   go_enter Tryz.func145, Tryz.ntmps145
   go_wp2_with fail
   go_ret
   have hr : r = [] := List.eq_nil_of_length_eq_zero HN.out.symm
   refine ⟨rfl, _, by have := HB.out.set (o := 2) (.slice (some ⟨pb, po, none⟩) 0 0); simpa using this, Or.inl ⟨hr, _, _, rfl⟩, (Chg.refl (fun b => b = wp) w).setCell (p := ⟨wp, 2, none⟩) rfl _⟩
  ·have hcn : ¬ c = 1 := hc1
   have hcn2 : ¬ 1 = c := fun h => hc1 h.symm
   go_enter Tryz.func145, Tryz.ntmps145
   go_wp2_with fail
   go_ret
   refine ⟨rfl, _, by have := HB.out.set (o := 2) (.slice (some ⟨pb, po + 1, none⟩) n (c - 1)); simpa using this, Or.inr ⟨pb, po + 1, c - 1, by simp [HN.out], by simp only [List.tail_cons]; have := HN.out; omega, h3, fun j y hy => ?_⟩, (Chg.refl (fun b => b = wp) w).setCell (p := ⟨wp, 2, none⟩) rfl _⟩
   have h5 := H4.out (j + 1) y hy
   have hc : Chg (fun b => b = wp) w (w.setCell ⟨wp, 2, none⟩ (.slice (some ⟨pb, po + 1, none⟩) n (c - 1))) := (Chg.refl (fun b => b = wp) w).setCell (p := ⟨wp, 2, none⟩) rfl _
   rw [hc.cell (p := ⟨pb, po + 1 + j, none⟩) hpl (by show ¬ pb = wp; omega), Nat.add_assoc, Nat.add_comm 1 j]
   exact h5
end
end Go.Proofs.YtcphhbofjkenaaaGreatDoor
namespace Go.Proofs.YtcphhbofjkenaaaGreatDoor
set_option maxRecDepth 100000
set_option maxHeartbeats 16000000
open Go Go.RowKit
set_option linter.unusedVariables false
set_option linter.unusedSimpArgs false
theorem world_tell {B : Nat} {w : World} {wp : Nat} {vv ov iv : Value} {l : List Int} (hb : Blk w wp #[vv, ov, iv] 118) (ho : IRow B w ov l) (x : Int) (hl : l.length ≤ 2000000) (hB : B ≤ w.heap.size) :
  Calls Tryz.prog 146 #[.pointer (some ⟨wp, 0, none⟩), .int .i64 x] w fun e w' => e = .returned (.tuple #[]) ∧ ∃ ov', Blk w' wp #[vv, ov', iv] 118 ∧ IRow B w' ov' (l ++ [x]) ∧ Lc w ov ov' ∧ Chg (fun b => b = wp ∨ ov.ownBlock = some b) w w' := by
 obtain ⟨oa, oc, hov, hoc, _⟩ := row_shape ho
 subst hov
 have c1 : w.cell? ⟨wp, 1, none⟩ = some (.slice oa l.length oc) := hb.cell 1 _ rfl
 have hlt := hb.lt
 obtain ⟨i0, hi, hz0, hz1, hz2⟩ := info_parts Tryz.infoIn
 have HI := hidden (And.intro hi (And.intro hz0 (And.intro hz1 hz2)))
 have HB := hidden hb; have HO := hidden ho
 have HX := hidden (ho.alloc (.cells #[.int .i64 x] 3 (0, 0)))
 have HN := hidden (newsM w #[.int .i64 x] 3)
 have HON := hidden (show ∀ u ∈ ([.int .i64 x] : List Value), u.oneCell' = true by intro u hu; simp at hu; rw [hu]; rfl)
 have HQ := hidden (And.intro (show l.length + 1 ≤ maxLen by unfold maxLen; omega) (show (l.length + 1) * 8 ≤ 140737488355328 by omega))
 have HS := hidden (show B ≤ (w.alloc (.cells #[.int .i64 x] 3 (0, 0))).heap.size by simp; omega)
 have HH := hidden (show (w.alloc (.cells #[.int .i64 x] 3 (0, 0))).heap.size = w.heap.size + 1 by simp)
 have hne : (Value.slice oa l.length oc).ownBlock ≠ some wp := own_blk ho hb (by decide)
 clear hi hz0 hz1 hz2 hb ho
 go_enter Tryz.func146, Tryz.ntmps146
 go_wp2_with (at_builtin; refine wpList_append_lies _ rfl _ _ 24 rfl B 3 i0 (.int .i64 0) 1 8 Tryz.underlying24 HI.out.1 HI.out.2.1 HI.out.2.2.1 HI.out.2.2.2 rfl (by decide) (.slice oa l.length oc) l.length (ints l) rfl HX.out ⟨w.heap.size, 0, none⟩ 1 1 [.int .i64 x] rfl rfl HN.out HON.out (by decide) HQ.out.1 HQ.out.2 HS.out (w.heap.size + 1) HH.out ?_)
 intro g cap w2 hr hg hat hlt2
 have hcg : Chg (fun b => (Value.slice oa l.length oc).ownBlock = some b) w w2 := ((Chg.refl _ w).alloc _).trans ((Chg.ofGrown hg).mono (fun k _ e => e.symm))
 have hb2 := HB.out.chg hcg hne
 have hne2 : (Value.slice (some ⟨g, 0, none⟩) (l.length + 1) cap).ownBlock ≠ some wp := own_blk hr hb2 (by decide)
 have q1 : w2.cell? ⟨wp, 1, none⟩ = some (.slice oa l.length oc) := hb2.cell 1 _ rfl
 have f1 := hb2.frozen 1
 have HR := hidden hr; have HC := hidden hcg; have HB2 := hidden hb2
 have HL : Hid (Lc w (Value.slice oa l.length oc) (.slice (some ⟨g, 0, none⟩) (l.length + 1) cap)) := fun k hk => by
  simp only [Value.ownBlock, Option.some.injEq] at hk; subst hk
  rcases hat with e | e
  ·exact Or.inl e
  ·right; omega
 clear hr hg hat hlt2 hcg hb2 c1
 go_wp2_with fail
 go_end0
 have hset : Chg (fun b => b = wp) w2 (w2.setCell ⟨wp, 1, none⟩ (.slice (some ⟨g, 0, none⟩) (l.length + 1) cap)) := (Chg.refl (fun b => b = wp) w2).setCell (p := ⟨wp, 1, none⟩) rfl _
 refine ⟨rfl, .slice (some ⟨g, 0, none⟩) (l.length + 1) cap, by have := HB2.out.set (o := 1) (.slice (some ⟨g, 0, none⟩) (l.length + 1) cap); simpa using this, ?_, HL.out, (HC.out.mono (fun b _ e => Or.inr e)).trans (hset.mono (fun b _ e => Or.inl e))⟩
 show World.ownsRow _ _ _ _ _ _ _
 rw [List.length_append, List.length_singleton, ints, List.map_append]
 exact ownsRow_chg HR.out hset (fun b hb e => hne2 (by rw [hb, e]))
section
variable {B : Nat} {w : World} {mb : Nat} {cs : Array Value}
theorem mach_call {cv : Value} {l : List Int} (hb : Blk w mb cs 116) (h34 : cs[34]? = some cv) (hc : IRow B w cv l) (x : Int) (hl : l.length ≤ 2000000) (hB : B ≤ w.heap.size) :
  Calls Tryz.prog 150 #[.pointer (some ⟨mb, 34, none⟩), .int .i64 x] w fun e w' => e = .returned (.tuple #[]) ∧ ∃ cv', Blk w' mb (cs.setIfInBounds 34 cv') 116 ∧ IRow B w' cv' (l ++ [x]) ∧ Lc w cv cv' ∧ Chg (fun b => b = mb ∨ cv.ownBlock = some b) w w' := by
 obtain ⟨oa, oc, hov, hoc, _⟩ := row_shape hc
 subst hov
 have c1 : w.cell? ⟨mb, 34, none⟩ = some (.slice oa l.length oc) := hb.cell 34 _ h34
 have hlt := hb.lt
 obtain ⟨i0, hi, hz0, hz1, hz2⟩ := info_parts Tryz.infoIn
 have HI := hidden (And.intro hi (And.intro hz0 (And.intro hz1 hz2)))
 have HB := hidden hb; have HO := hidden hc; have H34 := hidden h34
 have HX := hidden (hc.alloc (.cells #[.int .i64 x] 3 (0, 0)))
 have HN := hidden (newsM w #[.int .i64 x] 3)
 have HON := hidden (show ∀ u ∈ ([.int .i64 x] : List Value), u.oneCell' = true by intro u hu; simp at hu; rw [hu]; rfl)
 have HQ := hidden (And.intro (show l.length + 1 ≤ maxLen by unfold maxLen; omega) (show (l.length + 1) * 8 ≤ 140737488355328 by omega))
 have HS := hidden (show B ≤ (w.alloc (.cells #[.int .i64 x] 3 (0, 0))).heap.size by simp; omega)
 have HH := hidden (show (w.alloc (.cells #[.int .i64 x] 3 (0, 0))).heap.size = w.heap.size + 1 by simp)
 have hne : (Value.slice oa l.length oc).ownBlock ≠ some mb := own_blk hc hb (by decide)
 clear hi hz0 hz1 hz2 hb hc h34
 go_enter Tryz.func150, Tryz.ntmps150
 go_wp2_with (at_builtin; refine wpList_append_lies _ rfl _ _ 24 rfl B 3 i0 (.int .i64 0) 1 8 Tryz.underlying24 HI.out.1 HI.out.2.1 HI.out.2.2.1 HI.out.2.2.2 rfl (by decide) (.slice oa l.length oc) l.length (ints l) rfl HX.out ⟨w.heap.size, 0, none⟩ 1 1 [.int .i64 x] rfl rfl HN.out HON.out (by decide) HQ.out.1 HQ.out.2 HS.out (w.heap.size + 1) HH.out ?_)
 intro g cap w2 hr hg hat hlt2
 have hcg : Chg (fun b => (Value.slice oa l.length oc).ownBlock = some b) w w2 := ((Chg.refl _ w).alloc _).trans ((Chg.ofGrown hg).mono (fun k _ e => e.symm))
 have hb2 := HB.out.chg hcg hne
 have hne2 : (Value.slice (some ⟨g, 0, none⟩) (l.length + 1) cap).ownBlock ≠ some mb := own_blk hr hb2 (by decide)
 have q1 : w2.cell? ⟨mb, 34, none⟩ = some (.slice oa l.length oc) := hb2.cell 34 _ H34.out
 have f1 := hb2.frozen 34
 have HR := hidden hr; have HC := hidden hcg; have HB2 := hidden hb2
 have HL : Hid (Lc w (Value.slice oa l.length oc) (.slice (some ⟨g, 0, none⟩) (l.length + 1) cap)) := fun k hk => by
  simp only [Value.ownBlock, Option.some.injEq] at hk; subst hk
  rcases hat with e | e
  ·exact Or.inl e
  ·right; omega
 clear hr hg hat hlt2 hcg hb2 c1
 go_wp2_with fail
 go_end0
 have hset : Chg (fun b => b = mb) w2 (w2.setCell ⟨mb, 34, none⟩ (.slice (some ⟨g, 0, none⟩) (l.length + 1) cap)) := (Chg.refl (fun b => b = mb) w2).setCell (p := ⟨mb, 34, none⟩) rfl _
 refine ⟨rfl, .slice (some ⟨g, 0, none⟩) (l.length + 1) cap, HB2.out.set (o := 34) _, ?_, HL.out, (HC.out.mono (fun b _ e => Or.inr e)).trans (hset.mono (fun b _ e => Or.inl e))⟩
 show World.ownsRow _ _ _ _ _ _ _
 rw [List.length_append, List.length_singleton, ints, List.map_append]
 exact ownsRow_chg HR.out hset (fun b hb e => hne2 (by rw [hb, e]))
theorem mach_caller0 {cv : Value} (hb : Blk w mb cs 116) (h34 : cs[34]? = some cv) (hc : IRow B w cv []) :
  Calls Tryz.prog 147 #[.pointer (some ⟨mb, 34, none⟩)] w fun e w' => e = .returned (.tuple #[.int .i64 0, .bool false]) ∧ w' = w := by
 obtain ⟨oa, oc, hov, hoc, _⟩ := row_shape hc
 subst hov
 have c1 : w.cell? ⟨mb, 34, none⟩ = some (.slice oa 0 oc) := hb.cell 34 _ h34
 have hlt := hb.lt
 clear hb hc h34
 go_enter Tryz.func147, Tryz.ntmps147
 go_wp2_with fail
 exact bodyPost_ret (v := .tuple #[.int .i64 0, .bool false]) (by simp [results, Tryz.results147, go_sem]) rfl ⟨rfl, rfl⟩
theorem mach_caller {cv : Value} {l : List Int} {x : Int} (hb : Blk w mb cs 116) (h34 : cs[34]? = some cv) (hc : IRow B w cv (l ++ [x])) (hl : l.length ≤ 2000000) :
  Calls Tryz.prog 147 #[.pointer (some ⟨mb, 34, none⟩)] w fun e w' => e = .returned (.tuple #[.int .i64 x, .bool true]) ∧ ∃ cv', Blk w' mb (cs.setIfInBounds 34 cv') 116 ∧ IRow B w' cv' l ∧ Lc w cv cv' ∧ Chg (fun b => b = mb) w w' := by
 have hlen : (l ++ [x]).length = l.length + 1 := by simp
 have hc' : w.ownsRow B 3 1 cv (l.length + 1) (ints l ++ [.int .i64 x]) := by have := hc; rw [IRow, hlen, ints, List.map_append] at this; exact this
 obtain ⟨g, cap, rfl, _, hg, hcap, _, hcell⟩ := row_cells hc' (by omega)
 have c1 : w.cell? ⟨mb, 34, none⟩ = some (.slice (some ⟨g, 0, none⟩) (l.length + 1) cap) := hb.cell 34 _ h34
 have c2 : w.cell? ⟨g, l.length, none⟩ = some (.int .i64 x) := hcell _ _ (by simp [ints])
 have f1 := hb.frozen 34
 have hlt := hb.lt
 have HB := hidden hb; have HC := hidden hc'
 have hne : g ≠ mb := fun e => own_blk hc' hb (by decide) (by rw [← e]; rfl)
 have hi0 : (0 : Int) ≤ (l.length : Int) := by omega
 have hi1 : ¬ (l.length : Int) < 0 := by omega
 clear hb hc hc' h34 hcell hlen
 go_enter Tryz.func147, Tryz.ntmps147
 go_wp2_with fail
 refine bodyPost_ret (v := .tuple #[.int .i64 x, .bool true]) (by simp [results, Tryz.results147, go_sem]) rfl ⟨rfl, .slice (some ⟨g, 0, none⟩) l.length cap, HB.out.set (o := 34) _, ?_, fun k hk => Or.inl hk, (Chg.refl (fun b => b = mb) w).setCell (p := ⟨mb, 34, none⟩) rfl _⟩
 refine ownsRow_chg (ownsRow_pop HC.out (by simp)) ((Chg.refl (fun b => b = mb) w).setCell (p := ⟨mb, 34, none⟩) rfl _) (fun b hb e => hne ?_)
 have : g = b := by simpa [Value.ownBlock] using hb
 rw [this, e]
theorem mach_enter {lv : Value} {l : List (Int × Int)} (hb : Blk w mb cs 116) (h33 : cs[33]? = some lv) (hc : LRow B w lv l) (x y : Int) (hl : l.length ≤ 2000000) (hB : B ≤ w.heap.size) (hxy : x < y) :
  Calls Tryz.prog 148 #[.pointer (some ⟨mb, 33, none⟩), .int .i64 x, .int .i64 y] w fun e w' => e = .returned (.bool true) ∧ ∃ lv', Blk w' mb (cs.setIfInBounds 33 lv') 116 ∧ LRow B w' lv' (l ++ [(x, y)]) ∧ Lc w lv lv' ∧ Chg (fun b => b = mb ∨ lv.ownBlock = some b) w w' := by
 obtain ⟨oa, oc, hov, hoc, _⟩ := row_shape hc
 subst hov
 have c1 : w.cell? ⟨mb, 33, none⟩ = some (.slice oa l.length oc) := hb.cell 33 _ h33
 have hlt := hb.lt
 obtain ⟨i0, hi, hz0, hz1, hz2⟩ := info_parts Tryz.infoLo
 have HI := hidden (And.intro hi (And.intro hz0 (And.intro hz1 hz2)))
 have HB := hidden hb; have HO := hidden hc; have H33 := hidden h33
 obtain ⟨xs, hxs⟩ : ∃ xs, xs = l.flatMap fun x => [Value.int .i64 x.1, .int .i64 x.2] := ⟨_, rfl⟩
 have hc' : w.ownsRow B 237 2 (.slice oa l.length oc) l.length xs := by rw [hxs]; exact hc
 have HXS := hidden hxs
 have HX := hidden (hc'.alloc (.cells #[.int .i64 x, .int .i64 y] 237 (0, 0)))
 have HN := hidden (newsM w #[.int .i64 x, .int .i64 y] 237)
 have HON := hidden (show ∀ u ∈ ([.int .i64 x, .int .i64 y] : List Value), u.oneCell' = true by intro u hu; simp at hu; rcases hu with rfl | rfl <;> rfl)
 have HQ := hidden (And.intro (show l.length + 1 ≤ maxLen by unfold maxLen; omega) (show (l.length + 1) * 16 ≤ 140737488355328 by omega))
 have HS := hidden (show B ≤ (w.alloc (.cells #[.int .i64 x, .int .i64 y] 237 (0, 0))).heap.size by simp; omega)
 have HH := hidden (show (w.alloc (.cells #[.int .i64 x, .int .i64 y] 237 (0, 0))).heap.size = w.heap.size + 1 by simp)
 have hne : (Value.slice oa l.length oc).ownBlock ≠ some mb := own_blk hc hb (by decide)
 have hge : ¬ y ≤ x := by omega
 clear hi hz0 hz1 hz2 hb hc hc' h33 hxs
 go_enter Tryz.func148, Tryz.ntmps148
 go_wp2_with (at_builtin; refine wpList_append_lies _ rfl _ _ 110 rfl B 237 i0 (.agg #[.int .i64 0, .int .i64 0]) 2 16 Tryz.underlying110 HI.out.1 HI.out.2.1 HI.out.2.2.1 HI.out.2.2.2 rfl (by decide) (.slice oa l.length oc) l.length xs rfl HX.out ⟨w.heap.size, 0, none⟩ 1 1 [.int .i64 x, .int .i64 y] rfl rfl HN.out HON.out (by decide) HQ.out.1 HQ.out.2 HS.out (w.heap.size + 1) HH.out ?_)
 intro g cap w2 hr hg hat hlt2
 have hcg : Chg (fun b => (Value.slice oa l.length oc).ownBlock = some b) w w2 := ((Chg.refl _ w).alloc _).trans ((Chg.ofGrown hg).mono (fun k _ e => e.symm))
 have hb2 := HB.out.chg hcg hne
 have hne2 : (Value.slice (some ⟨g, 0, none⟩) (l.length + 1) cap).ownBlock ≠ some mb := own_blk hr hb2 (by decide)
 have q1 : w2.cell? ⟨mb, 33, none⟩ = some (.slice oa l.length oc) := hb2.cell 33 _ H33.out
 have f1 := hb2.frozen 33
 have HR := hidden hr; have HC := hidden hcg; have HB2 := hidden hb2
 have HL : Hid (Lc w (Value.slice oa l.length oc) (.slice (some ⟨g, 0, none⟩) (l.length + 1) cap)) := fun k hk => by
  simp only [Value.ownBlock, Option.some.injEq] at hk; subst hk
  rcases hat with e | e
  ·exact Or.inl e
  ·right; omega
 clear hr hg hat hlt2 hcg hb2 c1
 go_wp2_with fail
 go_ret
 have hset : Chg (fun b => b = mb) w2 (w2.setCell ⟨mb, 33, none⟩ (.slice (some ⟨g, 0, none⟩) (l.length + 1) cap)) := (Chg.refl (fun b => b = mb) w2).setCell (p := ⟨mb, 33, none⟩) rfl _
 refine ⟨rfl, .slice (some ⟨g, 0, none⟩) (l.length + 1) cap, HB2.out.set (o := 33) _, ?_, HL.out, (HC.out.mono (fun b _ e => Or.inr e)).trans (hset.mono (fun b _ e => Or.inl e))⟩
 show World.ownsRow _ _ _ _ _ _ _
 rw [List.length_append, List.length_singleton, List.flatMap_append, ← HXS.out]
 exact ownsRow_chg HR.out hset (fun b hb e => hne2 (by rw [hb, e]))
theorem mach_enter0 (x y : Int) (hxy : ¬ x < y) : Calls Tryz.prog 148 #[.pointer (some ⟨mb, 33, none⟩), .int .i64 x, .int .i64 y] w fun e w' => e = .returned (.bool false) ∧ w' = w := by
 have hge : y ≤ x := by omega
 go_enter Tryz.func148, Tryz.ntmps148
 go_wp2_with fail
 go_ret
 exact ⟨rfl, rfl⟩
theorem lrow_cells {g n cap : Nat} {l : List (Int × Int)} {x y : Int} (h : w.ownsRow B 237 2 (.slice (some ⟨g, 0, none⟩) (n + 1) cap) (n + 1) ((l ++ [(x, y)]).flatMap fun x => [.int .i64 x.1, .int .i64 x.2])) (hn : l.length = n) :
  w.cell? ⟨g, n * 2, none⟩ = some (.int .i64 x) ∧ w.cell? ⟨g, n * 2 + 1, none⟩ = some (.int .i64 y) := by
 obtain ⟨g', cap', hv, _, _, _, _, hc⟩ := row_cells h (by omega)
 obtain ⟨rfl, rfl⟩ : g = g' ∧ cap = cap' := by simpa using hv
 have q := fun m hm => flat_get (fun x : Int × Int => [Value.int .i64 x.1, .int .i64 x.2]) 2 (fun _ => rfl) (l ++ [(x, y)]) n m (by simp; omega) hm
 have e : (l ++ [(x, y)])[n]'(by simp; omega) = (x, y) := by rw [List.getElem_append_right (by omega)]; simp
 constructor
 ·refine hc _ _ ?_
  have := q 0 (by omega)
  rw [Nat.add_zero, e] at this
  rw [this]; rfl
 ·refine hc _ _ ?_
  rw [q 1 (by omega), e]; rfl
theorem mach_number {lv : Value} {l : List (Int × Int)} {x y : Int} (hb : Blk w mb cs 116) (h33 : cs[33]? = some lv) (hc : LRow B w lv (l ++ [(x, y)])) (hl : l.length ≤ 2000000) :
  Calls Tryz.prog 113 #[.pointer (some ⟨mb, 33, none⟩)] w fun e w' => e = .returned (.int .i64 x) ∧ Below w.heap.size w w' := by
 have hlen : (l ++ [(x, y)]).length = l.length + 1 := by simp
 have hc' := hc
 rw [LRow, hlen] at hc'
 obtain ⟨g, cap, rfl, _, hg, hcap, _, _⟩ := row_cells hc' (by omega)
 have c1 : w.cell? ⟨mb, 33, none⟩ = some (.slice (some ⟨g, 0, none⟩) (l.length + 1) cap) := hb.cell 33 _ h33
 obtain ⟨c2, c3⟩ := lrow_cells hc' rfl
 have hlt := hb.lt
 have hi0 : (0 : Int) ≤ (l.length : Int) := by omega
 obtain ⟨n, hn⟩ : ∃ n, n = l.length := ⟨_, rfl⟩
 rw [← hn] at c1 c2 c3 hi0 hl hcap
 clear hb hc hc' h33 hlen hn
 go_enter Tryz.func113, Tryz.ntmps113
 go_wp2_with fail
 go_quiet (fail)
 go_wp2_with fail
 go_ret
 exact ⟨rfl, ⟨rfl, rfl, rfl, Nat.le_refl _, fun _ _ => rfl⟩⟩
theorem loops_last (l : List (Int × Int)) (x y z : Int) : ((l ++ [(x, y)]).flatMap fun x => [Value.int .i64 x.1, .int .i64 x.2]).set (l.length * 2) (.int .i64 z) = (l ++ [(z, y)]).flatMap fun x => [Value.int .i64 x.1, .int .i64 x.2] := by
 rw [List.flatMap_append, List.flatMap_append, List.set_append_right _ _ (by rw [loops_len]; omega), loops_len, Nat.sub_self]
 rfl
theorem mach_again {lv : Value} {l : List (Int × Int)} {x y : Int} (hb : Blk w mb cs 116) (h33 : cs[33]? = some lv) (hc : LRow B w lv (l ++ [(x, y)])) (hl : l.length ≤ 2000000) (hx0 : -9000000000 ≤ x) (hx1 : x ≤ 9000000000) :
  Calls Tryz.prog 149 #[.pointer (some ⟨mb, 33, none⟩)] w fun e w' => e = .returned (.bool (decide (x + 1 < y))) ∧ ∃ lv', Blk w' mb (cs.setIfInBounds 33 lv') 116 ∧ LRow B w' lv' (if x + 1 < y then l ++ [(x + 1, y)] else l) ∧ Lc w lv lv' ∧ Chg (fun b => b = mb ∨ lv.ownBlock = some b) w w' := by
 obtain ⟨L, hL⟩ : ∃ L, L = (if x + 1 < y then l ++ [(x + 1, y)] else l) := ⟨_, rfl⟩
 rw [← hL]
 have HLL := hidden hL
 clear hL
 have hlen : (l ++ [(x, y)]).length = l.length + 1 := by simp
 have hc' := hc
 rw [LRow, hlen] at hc'
 obtain ⟨g, cap, rfl, _, hg, hcap, _, _⟩ := row_cells hc' (by omega)
 have c1 : w.cell? ⟨mb, 33, none⟩ = some (.slice (some ⟨g, 0, none⟩) (l.length + 1) cap) := hb.cell 33 _ h33
 obtain ⟨c2, c3⟩ := lrow_cells hc' rfl
 have f2 : w.frozen? ⟨g, l.length * 2, none⟩ = false := by
  rcases hc'.2 with ⟨h0, _⟩ | ⟨g', cap', cur, hv', _, hh, _⟩
  ·cases h0
  ·obtain ⟨rfl, rfl⟩ : g = g' ∧ cap = cap' := by simpa using hv'
   simp [World.frozen?, hh]
 have hlt := hb.lt
 have hne : g ≠ mb := fun e => own_blk hc' hb (by decide) (by rw [← e]; rfl)
 obtain ⟨X, hX⟩ : ∃ X : World, X = w.setCell ⟨g, l.length * 2, none⟩ (.int .i64 (x + 1)) := ⟨_, rfl⟩
 have hcX : Chg (fun b => b = g) w X := by rw [hX]; exact (Chg.refl (fun b => b = g) w).setCell (p := ⟨g, l.length * 2, none⟩) rfl _
 have hrX : X.ownsRow B 237 2 (.slice (some ⟨g, 0, none⟩) (l.length + 1) cap) (l.length + 1) ((l ++ [(x + 1, y)]).flatMap fun x => [.int .i64 x.1, .int .i64 x.2]) := by
  have := ownsRow_set hc' (l.length * 2) (.int .i64 (x + 1))
  rw [loops_last] at this
  rw [hX]; exact this
 have hkX := hb.chg hcX (fun e => hne e.symm)
 have x1 : X.cell? ⟨mb, 33, none⟩ = some (.slice (some ⟨g, 0, none⟩) (l.length + 1) cap) := hkX.cell 33 _ h33
 have g1 := hkX.frozen 33
 obtain ⟨x2, x3⟩ := lrow_cells hrX rfl
 have hXl := hkX.lt
 have HX := hidden hX; have HCX := hidden hcX; have HRX := hidden hrX; have HKX := hidden hkX; have H33 := hidden h33
 obtain ⟨n, hn⟩ : ∃ n, n = l.length := ⟨_, rfl⟩
 rw [← hn] at c1 c2 c3 f2 x1 x2 x3 hl hcap HX
 have HN := hidden hn
 have hi0 : (0 : Int) ≤ (n : Int) := by omega
 clear hb hc hc' h33 hlen hX hcX hrX hkX hn
 go_enter Tryz.func149, Tryz.ntmps149
 go_upto_region 3 with fail
 rw [← HX.out]
 clear c1 c2 c3 f2
 by_cases hlt2 : x + 1 < y
 ·have hd : decide (x + 1 < y) = true := decide_eq_true hlt2
  have HLP : Hid (L = l ++ [(x + 1, y)]) := by show L = _; rw [HLL.out, if_pos hlt2]
  clear HLL
  go_wp2_with fail
  go_quiet (fail)
  go_wp2_with fail
  go_ret
  have hbq : Below X.heap.size X (X.drewN nq) := ⟨rfl, rfl, rfl, Nat.le_refl _, fun _ _ => rfl⟩
  refine ⟨ret_bool hd.symm, .slice (some ⟨g, 0, none⟩) (l.length + 1) cap, ?_, ?_, fun k hk => Or.inl (by rw [← HN.out] at hk; exact hk), ((HCX.out.mono (fun b _ e => Or.inr (by rw [e]; rfl))).trans (Chg.ofBelow hbq))⟩
  ·have := HKX.out.sub hbq HKX.out.lt
   have e : cs.setIfInBounds 33 (.slice (some ⟨g, 0, none⟩) (l.length + 1) cap) = cs := by
    apply Array.ext_getElem?
    intro i
    by_cases hi : i = 33
    ·subst hi; rw [Array.getElem?_setIfInBounds_self_of_lt (Array.getElem?_eq_some_iff.1 H33.out).1, H33.out]
    ·rw [Array.getElem?_setIfInBounds_ne (Ne.symm hi)]
   rw [e]; exact this
  ·show World.ownsRow _ _ _ _ _ _ _
   rw [HLP.out, List.length_append, List.length_singleton]
   exact ownsRow_chg HRX.out (Chg.ofBelow (S := fun _ => False) hbq) (fun _ _ => id)
 ·have hd : decide (x + 1 < y) = false := decide_eq_false hlt2
  have HLP : Hid (L = l) := by show L = _; rw [HLL.out, if_neg hlt2]
  clear HLL
  go_wp2_with fail
  go_quiet (fail)
  have hbq : Below X.heap.size X (X.drewN nq) := ⟨rfl, rfl, rfl, Nat.le_refl _, fun _ _ => rfl⟩
  obtain ⟨V, hV⟩ : ∃ V : World, V = X.drewN nq := ⟨_, rfl⟩
  rw [← hV] at hbq
  rw [← hV]
  have hkV := HKX.out.sub hbq HKX.out.lt
  have v1 : V.cell? ⟨mb, 33, none⟩ = some (.slice (some ⟨g, 0, none⟩) (n + 1) cap) := by rw [hbq.cell (p := ⟨mb, 33, none⟩) hXl]; exact x1
  have u1 := hkV.frozen 33
  have HKV := hidden hkV; have HBQ := hidden hbq
  have hVl := hkV.lt
  clear hV hkV hbq x1 x2 x3 g1
  go_wp2_with fail
  go_ret
  have hset : Chg (fun b => b = mb) V (V.setCell ⟨mb, 33, none⟩ (.slice (some ⟨g, 0, none⟩) n cap)) := (Chg.refl (fun b => b = mb) V).setCell (p := ⟨mb, 33, none⟩) rfl _
  refine ⟨ret_bool hd.symm, .slice (some ⟨g, 0, none⟩) n cap, HKV.out.set (o := 33) _, ?_, fun k hk => Or.inl hk, ((HCX.out.mono (fun b _ e => Or.inr (by rw [e]; rfl))).trans (Chg.ofBelow HBQ.out)).trans (hset.mono (fun b _ e => Or.inl e))⟩
  have hpop := ownsRow_pop (n := l.length) (by have := HRX.out; rw [List.flatMap_append] at this; exact this) (loops_len l)
  show World.ownsRow _ _ _ _ _ _ _
  rw [HLP.out]
  rw [HN.out] at hset ⊢
  exact ownsRow_chg (ownsRow_chg hpop (Chg.ofBelow (S := fun _ => False) HBQ.out) (fun _ _ => id)) hset (fun b hb e => hne (by
   have : g = b := by simpa [Value.ownBlock] using hb
   rw [this, e]))
end
end Go.Proofs.YtcphhbofjkenaaaGreatDoor
namespace Go.Proofs.YtcphhbofjkenaaaGreatDoor
set_option maxRecDepth 100000
set_option maxHeartbeats 16000000
open Go Go.RowKit
set_option linter.unusedVariables false
set_option linter.unusedSimpArgs false
structure MS where
 stk : List Int
 loops : List (Int × Int)
 calls : List Int
 at_ : Nat
structure MW where
 vars : List Int
 outs : List Int
 ins : List Int
structure RX where
 mb : Nat
 wp : Nat
 rv : Value
 st : Int
 lv : Value
 cv : Value
 vv : Value
 ov : Value
 iv : Value
def RX.S (x : RX) (b : Nat) : Prop := b = x.mb ∨ b = x.wp ∨ x.lv.ownBlock = some b ∨ x.cv.ownBlock = some b ∨ x.vv.ownBlock = some b ∨ x.ov.ownBlock = some b
def CodeAt (B : Nat) (w : World) (rv : Value) (code : List Int) : Prop := ∃ g cap, rv = .slice (some ⟨g, 0, none⟩) code.length cap ∧ code.length ≤ cap ∧ g < B ∧ ∀ (i : Nat) (x : Int), code[i]? = some x → w.cell? ⟨g, i, none⟩ = some (.int .i64 x)
theorem CodeAt.below {B : Nat} {w w' : World} {rv : Value} {code : List Int} (h : CodeAt B w rv code) (hb : Below B w w') : CodeAt B w' rv code := by
 obtain ⟨g, cap, h1, h2, h3, h4⟩ := h
 exact ⟨g, cap, h1, h2, h3, fun i x hx => by rw [hb.cell (p := ⟨g, i, none⟩) h3]; exact h4 i x hx⟩
structure CsAt (x : RX) (m : MS) (cs : Array Value) : Prop where
 mc : MC cs m.stk
 c33 : cs[33]? = some x.lv
 c34 : cs[34]? = some x.cv
 c35 : cs[35]? = some (.pointer (some ⟨x.wp, 0, none⟩))
 c36 : cs[36]? = some x.rv
 c37 : cs[37]? = some (.int .i64 x.st)
 c38 : cs[38]? = some (.int .i64 m.at_)
structure RAt (B : Nat) (w : World) (x : RX) (code : List Int) (m : MS) (u : MW) : Prop where
 mac : ∃ cs, Blk w x.mb cs 116 ∧ CsAt x m cs
 lrow : LRow B w x.lv m.loops
 crow : IRow B w x.cv m.calls
 wblk : Blk w x.wp #[x.vv, x.ov, x.iv] 118
 vrow : IRow B w x.vv u.vars
 orow : IRow B w x.ov u.outs
 ins : InsAt B w x.iv u.ins
 cod : CodeAt B w x.rv code
 sepc : ∀ k, x.cv.ownBlock = some k → x.vv.ownBlock ≠ some k ∧ x.ov.ownBlock ≠ some k
 sepv : ∀ k, x.vv.ownBlock = some k → x.ov.ownBlock ≠ some k
 bm : B ≤ x.mb
 bw : B ≤ x.wp
 len : m.loops.length ≤ 2000000 ∧ m.calls.length ≤ 2000000 ∧ u.outs.length ≤ 2000000 ∧ u.ins.length ≤ 20000000000000 ∧ u.vars.length ≤ 1000 ∧ code.length ≤ 1000 ∧ m.at_ ≤ code.length
section
variable {B : Nat} {w w' : World} {x : RX} {code : List Int} {m m' : MS} {u u' : MW}
theorem RAt.le (h : RAt B w x code m u) : B ≤ w.heap.size := by have := h.wblk.lt; have := h.bw; omega
theorem RAt.baseS (h : RAt B w x code m u) {b : Nat} (hb : x.S b) : B ≤ b := by
 rcases hb with e | e | e | e | e | e
 ·rw [e]; exact h.bm
 ·rw [e]; exact h.bw
 ·exact own_base h.lrow e
 ·exact own_base h.crow e
 ·exact own_base h.vrow e
 ·exact own_base h.orow e
theorem RAt.ltS (h : RAt B w x code m u) {b : Nat} (hb : x.S b) : b < w.heap.size := by
 rcases hb with e | e | e | e | e | e
 ·obtain ⟨cs, hk, _⟩ := h.mac; rw [e]; exact hk.lt
 ·rw [e]; exact h.wblk.lt
 ·exact own_lt h.lrow e
 ·exact own_lt h.crow e
 ·exact own_lt h.vrow e
 ·exact own_lt h.orow e
theorem RAt.toBelow (h : RAt B w x code m u) {S : Nat → Prop} (hc : Chg S w w') (hs : ∀ b, S b → x.S b) : Below B w w' := hc.toBelow h.le (fun b hb e => by have := h.baseS (hs b e); omega)
structure RN (B : Nat) (w : World) (x : RX) (code : List Int) (m' : MS) (u' : MW) (w' : World) (y : RX) : Prop where
 at_ : RAt B w' y code m' u'
 mb : y.mb = x.mb
 wp : y.wp = x.wp
 rv : y.rv = x.rv
 st : y.st = x.st
 vv : y.vv = x.vv
 lv : Lc w x.lv y.lv
 cv : Lc w x.cv y.cv
 ov : Lc w x.ov y.ov
 chg : Chg x.S w w'
def RNext (B : Nat) (w : World) (x : RX) (code : List Int) (m' : MS) (u' : MW) (w' : World) : Prop := ∃ y, RN B w x code m' u' w' y
theorem RN.sub {y : RX} (h : RN B w x code m' u' w' y) : ∀ b, y.S b → x.S b ∨ w.heap.size ≤ b := by
 rintro b (e | e | e | e | e | e)
 ·rw [h.mb] at e; exact Or.inl (Or.inl e)
 ·rw [h.wp] at e; exact Or.inl (Or.inr (Or.inl e))
 ·exact (h.lv b e).imp (fun e => Or.inr (Or.inr (Or.inl e))) id
 ·exact (h.cv b e).imp (fun e => Or.inr (Or.inr (Or.inr (Or.inl e)))) id
 ·rw [h.vv] at e; exact Or.inl (Or.inr (Or.inr (Or.inr (Or.inr (Or.inl e)))))
 ·exact (h.ov b e).imp (fun e => Or.inr (Or.inr (Or.inr (Or.inr (Or.inr e))))) id
theorem RN.trans {y z : RX} {w2 : World} {m2 : MS} {u2 : MW} (h : RN B w x code m' u' w' y) (h2 : RN B w' y code m2 u2 w2 z) : RN B w x code m2 u2 w2 z :=
 ⟨h2.at_, h2.mb.trans h.mb, h2.wp.trans h.wp, h2.rv.trans h.rv, h2.st.trans h.st, h2.vv.trans h.vv,
  fun k hk => (h2.lv k hk).elim (h.lv k) (fun e => Or.inr (Nat.le_trans h.chg.size e)), fun k hk => (h2.cv k hk).elim (h.cv k) (fun e => Or.inr (Nat.le_trans h.chg.size e)), fun k hk => (h2.ov k hk).elim (h.ov k) (fun e => Or.inr (Nat.le_trans h.chg.size e)),
  h.chg.thru h2.chg (fun b hb e => (h.sub b e).elim id (fun e => by omega))⟩
theorem RAt.machine {lv' cv' : Value} (h : RAt B w x code m u) (hc : Chg (fun b => b = x.mb ∨ x.lv.ownBlock = some b ∨ x.cv.ownBlock = some b) w w') (hcs : ∃ cs, Blk w' x.mb cs 116 ∧ CsAt { x with lv := lv', cv := cv' } m' cs)
  (hl : LRow B w' lv' m'.loops) (hr : IRow B w' cv' m'.calls) (h1 : Lc w x.lv lv') (h2 : Lc w x.cv cv') (hn : m'.loops.length ≤ 2000000 ∧ m'.calls.length ≤ 2000000 ∧ m'.at_ ≤ code.length) : RN B w x code m' u w' { x with lv := lv', cv := cv' } := by
 obtain ⟨cs0, hk0, _⟩ := h.mac
 have hsub : ∀ b, (b = x.mb ∨ x.lv.ownBlock = some b ∨ x.cv.ownBlock = some b) → x.S b := fun b e => by
  rcases e with e | e | e
  ·exact Or.inl e
  ·exact Or.inr (Or.inr (Or.inl e))
  ·exact Or.inr (Or.inr (Or.inr (Or.inl e)))
 have hB := h.toBelow hc hsub
 have hw : ¬ (x.wp = x.mb ∨ x.lv.ownBlock = some x.wp ∨ x.cv.ownBlock = some x.wp) := by
  rintro (e | e | e)
  ·rw [← e] at hk0; exact absurd (blk_type hk0 h.wblk) (by decide)
  ·exact own_blk h.lrow h.wblk (by decide) e
  ·exact own_blk h.crow h.wblk (by decide) e
 have hv : ∀ {v : Value} {l : List Int}, IRow B w v l → (∀ k, x.cv.ownBlock = some k → v.ownBlock ≠ some k) → IRow B w' v l := fun {v l} hr hs => ownsRow_chg hr hc (fun b hb e => by
  rcases e with e | e | e
  ·subst e; exact own_blk hr hk0 (by decide) hb
  ·exact own_own h.lrow hr (by decide) e hb
  ·exact hs b e hb)
 obtain ⟨n1, n2, n3⟩ := hn
 obtain ⟨_, _, n4, n5, n6, n7, _⟩ := h.len
 refine ⟨⟨hcs, hl, hr, h.wblk.chg hc hw, hv h.vrow (fun k hk => (h.sepc k hk).1), hv h.orow (fun k hk => (h.sepc k hk).2), h.ins.below hB, h.cod.below hB, fun k hk => ?_, h.sepv, h.bm, h.bw, n1, n2, n4, n5, n6, n7, n3⟩, rfl, rfl, rfl, rfl, rfl, h1, h2, Lc.refl _ _, hc.mono (fun b _ e => hsub b e)⟩
 rcases h2 k hk with e | e
 ·exact h.sepc k e
 ·exact ⟨fun e' => by have := own_lt h.vrow e'; omega, fun e' => by have := own_lt h.orow e'; omega⟩
theorem RAt.world {ov' iv' : Value} (h : RAt B w x code m u) (hc : Chg (fun b => b = x.wp ∨ x.vv.ownBlock = some b ∨ x.ov.ownBlock = some b) w w') (hb : Blk w' x.wp #[x.vv, ov', iv'] 118)
  (hv : IRow B w' x.vv u'.vars) (ho : IRow B w' ov' u'.outs) (hi : InsAt B w' iv' u'.ins) (h1 : Lc w x.ov ov') (hn : u'.outs.length ≤ 2000000 ∧ u'.ins.length ≤ 20000000000000 ∧ u'.vars.length ≤ 1000) : RN B w x code m u' w' { x with ov := ov', iv := iv' } := by
 obtain ⟨cs0, hk0, hcs⟩ := h.mac
 have hsub : ∀ b, (b = x.wp ∨ x.vv.ownBlock = some b ∨ x.ov.ownBlock = some b) → x.S b := fun b e => by
  rcases e with e | e | e
  ·exact Or.inr (Or.inl e)
  ·exact Or.inr (Or.inr (Or.inr (Or.inr (Or.inl e))))
  ·exact Or.inr (Or.inr (Or.inr (Or.inr (Or.inr e))))
 have hB := h.toBelow hc hsub
 have hm : ¬ (x.mb = x.wp ∨ x.vv.ownBlock = some x.mb ∨ x.ov.ownBlock = some x.mb) := by
  rintro (e | e | e)
  ·rw [e] at hk0; exact absurd (blk_type hk0 h.wblk) (by decide)
  ·exact own_blk h.vrow hk0 (by decide) e
  ·exact own_blk h.orow hk0 (by decide) e
 have hl : LRow B w' x.lv m.loops := ownsRow_chg h.lrow hc (fun b hb e => by
  rcases e with e | e | e
  ·subst e; exact own_blk h.lrow h.wblk (by decide) hb
  ·exact own_own h.lrow h.vrow (by decide) hb e
  ·exact own_own h.lrow h.orow (by decide) hb e)
 have hr : IRow B w' x.cv m.calls := ownsRow_chg h.crow hc (fun b hb e => by
  rcases e with e | e | e
  ·subst e; exact own_blk h.crow h.wblk (by decide) hb
  ·exact (h.sepc b hb).1 e
  ·exact (h.sepc b hb).2 e)
 obtain ⟨n1, n2, n3⟩ := hn
 obtain ⟨m1, m2, _, _, _, n7, n8⟩ := h.len
 refine ⟨⟨⟨cs0, hk0.chg hc hm, hcs.mc, hcs.c33, hcs.c34, hcs.c35, hcs.c36, hcs.c37, hcs.c38⟩, hl, hr, hb, hv, ho, hi, h.cod.below hB, fun k hk => ⟨(h.sepc k hk).1, fun e => ?_⟩, fun k hk e => ?_, h.bm, h.bw, m1, m2, n1, n2, n3, n7, n8⟩, rfl, rfl, rfl, rfl, rfl, Lc.refl _ _, Lc.refl _ _, h1, hc.mono (fun b _ e => hsub b e)⟩
 ·rcases h1 k e with e' | e'
  ·exact (h.sepc k hk).2 e'
  ·have := own_lt h.crow hk; omega
 ·rcases h1 k e with e' | e'
  ·exact h.sepv k hk e'
  ·have := own_lt h.vrow hk; omega
theorem RAt.below (h : RAt B w x code m u) (hb : Below w.heap.size w w') : RN B w x code m u w' x := by
 obtain ⟨cs0, hk0, hcs⟩ := h.mac
 have hc : Chg (fun _ => False) w w' := Chg.ofBelow hb
 have hB := hb.mono h.le
 exact ⟨⟨⟨cs0, hk0.sub hb hk0.lt, hcs⟩, ownsRow_chg h.lrow hc (fun _ _ => id), ownsRow_chg h.crow hc (fun _ _ => id), h.wblk.sub hb h.wblk.lt, ownsRow_chg h.vrow hc (fun _ _ => id), ownsRow_chg h.orow hc (fun _ _ => id), h.ins.below hB, h.cod.below hB, h.sepc, h.sepv, h.bm, h.bw, h.len⟩, rfl, rfl, rfl, rfl, rfl, Lc.refl _ _, Lc.refl _ _, Lc.refl _ _, hc.mono (fun b _ e => e.elim)⟩
theorem CsAt.stack {cs cs' : Array Value} {s : List Int} (h : CsAt x m cs) (hm : MC cs' s) (hr : Rest cs cs') : CsAt x { m with stk := s } cs' :=
 ⟨hm, (hr 33 (by omega)).trans h.c33, (hr 34 (by omega)).trans h.c34, (hr 35 (by omega)).trans h.c35, (hr 36 (by omega)).trans h.c36, (hr 37 (by omega)).trans h.c37, (hr 38 (by omega)).trans h.c38⟩
theorem RAt.take {a : Int} {s : List Int} (h : RAt B w x code m u) (hs : m.stk = a :: s) :
  Calls Tryz.prog 108 #[.pointer (some ⟨x.mb, 0, none⟩)] w fun e w' => e = .returned (.int .i64 a) ∧ RN B w x code { m with stk := s } u w' x := by
 obtain ⟨cs, hk, hcs⟩ := h.mac
 have hmc := hcs.mc
 rw [hs] at hmc
 refine (mach_take hk hmc).mono ?_
 rintro e w' ⟨he, cs', hk', hm', hr', hc⟩
 have hcl : ∀ {b : Nat} {v : Value} {l : List (Int × Int)}, LRow B w v l → v.ownBlock = some b → b ≠ x.mb := fun hr hb e => own_blk hr hk (by decide) (by rw [← e]; exact hb)
 have hci : ∀ {b : Nat} {v : Value} {l : List Int}, IRow B w v l → v.ownBlock = some b → b ≠ x.mb := fun hr hb e => own_blk hr hk (by decide) (by rw [← e]; exact hb)
 exact ⟨he, h.machine (lv' := x.lv) (cv' := x.cv) (hc.mono (fun b _ e => Or.inl e)) ⟨cs', hk', hcs.stack hm' hr'⟩ (ownsRow_chg h.lrow hc (fun b hb e => hcl h.lrow hb e)) (ownsRow_chg h.crow hc (fun b hb e => hci h.crow hb e)) (Lc.refl _ _) (Lc.refl _ _) ⟨h.len.1, h.len.2.1, h.len.2.2.2.2.2.2⟩⟩
theorem RAt.put {lb cap : Nat} (ys : List Int) (h : RAt B w x code m u) (h32 : m.stk.length < 32) (hy : m.stk.length + ys.length ≤ 32) (hlb : lb ≠ x.mb) (hll : lb < w.heap.size) (hcap : ys.length ≤ cap) (hl : ∀ (i : Nat) (y : Int), ys[i]? = some y → w.cell? ⟨lb, i, none⟩ = some (.int .i64 y)) :
  Calls Tryz.prog 106 #[.pointer (some ⟨x.mb, 0, none⟩), .slice (some ⟨lb, 0, none⟩) ys.length cap] w fun e w' => e = .returned (.tuple #[]) ∧ RN B w x code { m with stk := ys.reverse ++ m.stk } u w' x := by
 obtain ⟨cs, hk, hcs⟩ := h.mac
 refine (mach_put ys hk hcs.mc h32 hy hlb hll hcap hl).mono ?_
 rintro e w' ⟨he, cs', hk', hm', hr', hc⟩
 have hcl : ∀ {b : Nat} {v : Value} {l : List (Int × Int)}, LRow B w v l → v.ownBlock = some b → b ≠ x.mb := fun hr hb e => own_blk hr hk (by decide) (by rw [← e]; exact hb)
 have hci : ∀ {b : Nat} {v : Value} {l : List Int}, IRow B w v l → v.ownBlock = some b → b ≠ x.mb := fun hr hb e => own_blk hr hk (by decide) (by rw [← e]; exact hb)
 exact ⟨he, h.machine (lv' := x.lv) (cv' := x.cv) (hc.mono (fun b _ e => Or.inl e)) ⟨cs', hk', hcs.stack hm' hr'⟩ (ownsRow_chg h.lrow hc (fun b hb e => hcl h.lrow hb e)) (ownsRow_chg h.crow hc (fun b hb e => hci h.crow hb e)) (Lc.refl _ _) (Lc.refl _ _) ⟨h.len.1, h.len.2.1, h.len.2.2.2.2.2.2⟩⟩
end
attribute [local go_sem] quietG
section
variable {B : Nat} {w w' : World} {x : RX} {code : List Int} {m m' : MS} {u u' : MW}
theorem RAt.puts (ys : List Int) (h : RAt B w x code m u) (h32 : m.stk.length < 32) (hy : m.stk.length + ys.length ≤ 32) :
  Calls Tryz.prog 106 #[.pointer (some ⟨x.mb, 0, none⟩), .slice (some ⟨w.heap.size, 0, none⟩) ys.length ys.length] (w.alloc (.cells (ints ys).toArray 3 (0, 0))) fun e w' => e = .returned (.tuple #[]) ∧ RN B w x code { m with stk := ys.reverse ++ m.stk } u w' x := by
 have hb : Below w.heap.size w (w.alloc (.cells (ints ys).toArray 3 (0, 0))) := (Below.refl _ _).alloc (Nat.le_refl _) _
 have h1 := h.below hb
 have hne : w.heap.size ≠ x.mb := fun e => by obtain ⟨cs, hk, _⟩ := h.mac; have := hk.lt; omega
 have hk := blk_new w (ints ys).toArray 3
 refine (h1.at_.put ys h32 hy hne (by simp) (Nat.le_refl _) (fun i y hy => hk.cell i _ (by simp [hy]))).mono ?_
 rintro e w' ⟨he, hn⟩
 exact ⟨he, h1.trans hn⟩
def arrP (op : Nat) : List Int → List Int
 | c :: b :: a :: s => if op = 16 then c :: c :: b :: a :: s else if op = 17 then b :: a :: s else if op = 18 then b :: c :: a :: s else if op = 19 then b :: c :: b :: a :: s else if op = 21 then c :: a :: s else if op = 22 then c :: b :: c :: a :: s else a :: c :: b :: s
 | [c, b] => if op = 16 then [c, c, b] else if op = 17 then [b] else if op = 18 then [b, c] else if op = 19 then [b, c, b] else if op = 21 then [c] else [c, b, c]
 | [c] => if op = 16 then [c, c] else []
 | [] => []
theorem mach_dup {c : Int} {s : List Int} (h : RAt B w x code m u) (hs : m.stk = c :: s) (hl : m.stk.length + 1 ≤ 32) :
  Calls Tryz.prog 111 #[.pointer (some ⟨x.mb, 0, none⟩), .int .i64 16] w fun e w' => e = .returned (.tuple #[]) ∧ RN B w x code { m with stk := c :: c :: s } u w' x := by
 have hl' := hl
 rw [hs] at hl'
 simp only [List.length_cons] at hl'
 have hmb : x.mb < w.heap.size := h.ltS (Or.inl rfl)
 have H0 := hidden h; have HS0 := hidden hs
 clear h hs hl
 go_enter Tryz.func111, Tryz.ntmps111
 go_wp2_with fail
 refine (RAt.take H0.out HS0.out).mono ?_
 rintro e w0 ⟨rfl, hn0⟩
 have HN0 := hidden hn0
 have hm0 : x.mb < w0.heap.size := Nat.lt_of_lt_of_le hmb HN0.out.chg.size
 clear hn0
 have HPT := hidden (RAt.puts [c, c] HN0.out.at_ (by simp only; omega) (by simp only [List.length_cons, List.length_nil]; omega))
 go_wp2_with fail
 refine HPT.out.mono ?_
 rintro e wz ⟨rfl, hz⟩
 have HZ := hidden (HN0.out.trans hz)
 clear hz HPT
 go_wp2_with fail
 exact bodyPost_ret (results_none rfl _ _ _) rfl ⟨rfl, HZ.out⟩
theorem mach_drop {c : Int} {s : List Int} (h : RAt B w x code m u) (hs : m.stk = c :: s) (hl : m.stk.length + 0 ≤ 32) :
  Calls Tryz.prog 111 #[.pointer (some ⟨x.mb, 0, none⟩), .int .i64 17] w fun e w' => e = .returned (.tuple #[]) ∧ RN B w x code { m with stk := s } u w' x := by
 have hl' := hl
 rw [hs] at hl'
 simp only [List.length_cons] at hl'
 have hmb : x.mb < w.heap.size := h.ltS (Or.inl rfl)
 have H0 := hidden h; have HS0 := hidden hs
 clear h hs hl
 go_enter Tryz.func111, Tryz.ntmps111
 go_wp2_with fail
 refine (RAt.take H0.out HS0.out).mono ?_
 rintro e w0 ⟨rfl, hn0⟩
 have HN0 := hidden hn0
 have hm0 : x.mb < w0.heap.size := Nat.lt_of_lt_of_le hmb HN0.out.chg.size
 clear hn0
 go_wp2_with fail
 exact bodyPost_ret (results_none rfl _ _ _) rfl ⟨rfl, HN0.out⟩
theorem mach_swap {c b : Int} {s : List Int} (h : RAt B w x code m u) (hs : m.stk = c :: b :: s) (hl : m.stk.length + 0 ≤ 32) :
  Calls Tryz.prog 111 #[.pointer (some ⟨x.mb, 0, none⟩), .int .i64 18] w fun e w' => e = .returned (.tuple #[]) ∧ RN B w x code { m with stk := b :: c :: s } u w' x := by
 have hl' := hl
 rw [hs] at hl'
 simp only [List.length_cons] at hl'
 have hmb : x.mb < w.heap.size := h.ltS (Or.inl rfl)
 have H0 := hidden h; have HS0 := hidden hs
 clear h hs hl
 go_enter Tryz.func111, Tryz.ntmps111
 go_wp2_with fail
 refine (RAt.take H0.out HS0.out).mono ?_
 rintro e w0 ⟨rfl, hn0⟩
 have HN0 := hidden hn0
 have hm0 : x.mb < w0.heap.size := Nat.lt_of_lt_of_le hmb HN0.out.chg.size
 clear hn0
 go_wp2_with fail
 refine (RAt.take HN0.out.at_ rfl).mono ?_
 rintro e w1 ⟨rfl, hn1⟩
 have HN1 := hidden (HN0.out.trans hn1)
 have hm1 : x.mb < w1.heap.size := Nat.lt_of_lt_of_le hmb HN1.out.chg.size
 clear hn1
 have HPT := hidden (RAt.puts [c, b] HN1.out.at_ (by simp only; omega) (by simp only [List.length_cons, List.length_nil]; omega))
 go_wp2_with fail
 refine HPT.out.mono ?_
 rintro e wz ⟨rfl, hz⟩
 have HZ := hidden (HN1.out.trans hz)
 clear hz HPT
 go_wp2_with fail
 go_end0
 exact ⟨rfl, HZ.out⟩
theorem mach_over {c b : Int} {s : List Int} (h : RAt B w x code m u) (hs : m.stk = c :: b :: s) (hl : m.stk.length + 1 ≤ 32) :
  Calls Tryz.prog 111 #[.pointer (some ⟨x.mb, 0, none⟩), .int .i64 19] w fun e w' => e = .returned (.tuple #[]) ∧ RN B w x code { m with stk := b :: c :: b :: s } u w' x := by
 have hl' := hl
 rw [hs] at hl'
 simp only [List.length_cons] at hl'
 have hmb : x.mb < w.heap.size := h.ltS (Or.inl rfl)
 have H0 := hidden h; have HS0 := hidden hs
 clear h hs hl
 go_enter Tryz.func111, Tryz.ntmps111
 go_wp2_with fail
 refine (RAt.take H0.out HS0.out).mono ?_
 rintro e w0 ⟨rfl, hn0⟩
 have HN0 := hidden hn0
 have hm0 : x.mb < w0.heap.size := Nat.lt_of_lt_of_le hmb HN0.out.chg.size
 clear hn0
 go_wp2_with fail
 refine (RAt.take HN0.out.at_ rfl).mono ?_
 rintro e w1 ⟨rfl, hn1⟩
 have HN1 := hidden (HN0.out.trans hn1)
 have hm1 : x.mb < w1.heap.size := Nat.lt_of_lt_of_le hmb HN1.out.chg.size
 clear hn1
 have HPT := hidden (RAt.puts [b, c, b] HN1.out.at_ (by simp only; omega) (by simp only [List.length_cons, List.length_nil]; omega))
 go_wp2_with fail
 refine HPT.out.mono ?_
 rintro e wz ⟨rfl, hz⟩
 have HZ := hidden (HN1.out.trans hz)
 clear hz HPT
 go_wp2_with fail
 go_end0
 exact ⟨rfl, HZ.out⟩
theorem mach_nip {c b : Int} {s : List Int} (h : RAt B w x code m u) (hs : m.stk = c :: b :: s) (hl : m.stk.length + 0 ≤ 32) :
  Calls Tryz.prog 111 #[.pointer (some ⟨x.mb, 0, none⟩), .int .i64 21] w fun e w' => e = .returned (.tuple #[]) ∧ RN B w x code { m with stk := c :: s } u w' x := by
 have hl' := hl
 rw [hs] at hl'
 simp only [List.length_cons] at hl'
 have hmb : x.mb < w.heap.size := h.ltS (Or.inl rfl)
 have H0 := hidden h; have HS0 := hidden hs
 clear h hs hl
 go_enter Tryz.func111, Tryz.ntmps111
 go_wp2_with fail
 refine (RAt.take H0.out HS0.out).mono ?_
 rintro e w0 ⟨rfl, hn0⟩
 have HN0 := hidden hn0
 have hm0 : x.mb < w0.heap.size := Nat.lt_of_lt_of_le hmb HN0.out.chg.size
 clear hn0
 go_wp2_with fail
 refine (RAt.take HN0.out.at_ rfl).mono ?_
 rintro e w1 ⟨rfl, hn1⟩
 have HN1 := hidden (HN0.out.trans hn1)
 have hm1 : x.mb < w1.heap.size := Nat.lt_of_lt_of_le hmb HN1.out.chg.size
 clear hn1
 have HPT := hidden (RAt.puts [c] HN1.out.at_ (by simp only; omega) (by simp only [List.length_cons, List.length_nil]; omega))
 go_wp2_with fail
 refine HPT.out.mono ?_
 rintro e wz ⟨rfl, hz⟩
 have HZ := hidden (HN1.out.trans hz)
 clear hz HPT
 go_wp2_with fail
 go_end0
 exact ⟨rfl, HZ.out⟩
theorem mach_tuck {c b : Int} {s : List Int} (h : RAt B w x code m u) (hs : m.stk = c :: b :: s) (hl : m.stk.length + 1 ≤ 32) :
  Calls Tryz.prog 111 #[.pointer (some ⟨x.mb, 0, none⟩), .int .i64 22] w fun e w' => e = .returned (.tuple #[]) ∧ RN B w x code { m with stk := c :: b :: c :: s } u w' x := by
 have hl' := hl
 rw [hs] at hl'
 simp only [List.length_cons] at hl'
 have hmb : x.mb < w.heap.size := h.ltS (Or.inl rfl)
 have H0 := hidden h; have HS0 := hidden hs
 clear h hs hl
 go_enter Tryz.func111, Tryz.ntmps111
 go_wp2_with fail
 refine (RAt.take H0.out HS0.out).mono ?_
 rintro e w0 ⟨rfl, hn0⟩
 have HN0 := hidden hn0
 have hm0 : x.mb < w0.heap.size := Nat.lt_of_lt_of_le hmb HN0.out.chg.size
 clear hn0
 go_wp2_with fail
 refine (RAt.take HN0.out.at_ rfl).mono ?_
 rintro e w1 ⟨rfl, hn1⟩
 have HN1 := hidden (HN0.out.trans hn1)
 have hm1 : x.mb < w1.heap.size := Nat.lt_of_lt_of_le hmb HN1.out.chg.size
 clear hn1
 have HPT := hidden (RAt.puts [c, b, c] HN1.out.at_ (by simp only; omega) (by simp only [List.length_cons, List.length_nil]; omega))
 go_wp2_with fail
 refine HPT.out.mono ?_
 rintro e wz ⟨rfl, hz⟩
 have HZ := hidden (HN1.out.trans hz)
 clear hz HPT
 go_wp2_with fail
 go_end0
 exact ⟨rfl, HZ.out⟩
theorem mach_rot {c b a : Int} {s : List Int} (h : RAt B w x code m u) (hs : m.stk = c :: b :: a :: s) (hl : m.stk.length + 0 ≤ 32) :
  Calls Tryz.prog 111 #[.pointer (some ⟨x.mb, 0, none⟩), .int .i64 20] w fun e w' => e = .returned (.tuple #[]) ∧ RN B w x code { m with stk := a :: c :: b :: s } u w' x := by
 have hl' := hl
 rw [hs] at hl'
 simp only [List.length_cons] at hl'
 have hmb : x.mb < w.heap.size := h.ltS (Or.inl rfl)
 have H0 := hidden h; have HS0 := hidden hs
 clear h hs hl
 go_enter Tryz.func111, Tryz.ntmps111
 go_wp2_with fail
 refine (RAt.take H0.out HS0.out).mono ?_
 rintro e w0 ⟨rfl, hn0⟩
 have HN0 := hidden hn0
 have hm0 : x.mb < w0.heap.size := Nat.lt_of_lt_of_le hmb HN0.out.chg.size
 clear hn0
 go_wp2_with fail
 refine (RAt.take HN0.out.at_ rfl).mono ?_
 rintro e w1 ⟨rfl, hn1⟩
 have HN1 := hidden (HN0.out.trans hn1)
 have hm1 : x.mb < w1.heap.size := Nat.lt_of_lt_of_le hmb HN1.out.chg.size
 clear hn1
 go_wp2_with fail
 refine (RAt.take HN1.out.at_ rfl).mono ?_
 rintro e w2 ⟨rfl, hn2⟩
 have HN2 := hidden (HN1.out.trans hn2)
 have hm2 : x.mb < w2.heap.size := Nat.lt_of_lt_of_le hmb HN2.out.chg.size
 clear hn2
 have HPT := hidden (RAt.puts [b, c, a] HN2.out.at_ (by simp only; omega) (by simp only [List.length_cons, List.length_nil]; omega))
 go_wp2_with fail
 refine HPT.out.mono ?_
 rintro e wz ⟨rfl, hz⟩
 have HZ := hidden (HN2.out.trans hz)
 clear hz HPT
 go_wp2_with fail
 go_end0
 exact ⟨rfl, HZ.out⟩
end
end Go.Proofs.YtcphhbofjkenaaaGreatDoor
namespace Go.Proofs.YtcphhbofjkenaaaGreatDoor
set_option maxRecDepth 100000
set_option maxHeartbeats 16000000
open Go Go.RowKit
set_option linter.unusedVariables false
set_option linter.unusedSimpArgs false
attribute [local go_sem] quietG
section
variable {B : Nat} {w w' : World} {x : RX} {code : List Int} {m m' : MS} {u u' : MW}
theorem RAt.c35 (h : RAt B w x code m u) : w.cell? ⟨x.mb, 35, none⟩ = some (.pointer (some ⟨x.wp, 0, none⟩)) := by
 obtain ⟨cs, hk, hcs⟩ := h.mac
 exact hk.cell 35 _ hcs.c35
theorem RAt.fetch (h : RAt B w x code m u) (i : Nat) (hi : i < u.vars.length) :
  Calls Tryz.prog 143 #[.pointer (some ⟨x.wp, 0, none⟩), .int .i64 i] w fun e w' => e = .returned (.int .i64 (u.vars.getD i 0)) ∧ w' = w :=
 world_fetch h.wblk h.vrow i hi h.len.2.2.2.2.1
theorem RAt.store (h : RAt B w x code m u) (i : Nat) (a : Int) (hi : i < u.vars.length) :
  Calls Tryz.prog 144 #[.pointer (some ⟨x.wp, 0, none⟩), .int .i64 i, .int .i64 a] w fun e w' => e = .returned (.tuple #[]) ∧ RN B w x code m { u with vars := u.vars.set i a } w' x := by
 refine (world_store h.wblk h.vrow i a hi h.len.2.2.2.2.1).mono ?_
 rintro e w' ⟨he, hv, hc⟩
 have hw : x.vv.ownBlock ≠ some x.wp := own_blk h.vrow h.wblk (by decide)
 refine ⟨he, h.world (ov' := x.ov) (iv' := x.iv) (hc.mono (fun b _ e => Or.inr (Or.inl e))) (h.wblk.chg hc hw) hv (ownsRow_chg h.orow hc (fun b hb e => h.sepv b e hb)) (h.ins.below (h.toBelow hc (fun b e => Or.inr (Or.inr (Or.inr (Or.inr (Or.inl e))))))) (Lc.refl _ _) ⟨h.len.2.2.1, h.len.2.2.2.1, by rw [List.length_set]; exact h.len.2.2.2.2.1⟩⟩
theorem RAt.next (h : RAt B w x code m u) :
  Calls Tryz.prog 145 #[.pointer (some ⟨x.wp, 0, none⟩)] w fun e w' => e = .returned (.int .i64 (u.ins.headD 0)) ∧ ∃ iv', RN B w x code m { u with ins := u.ins.tail } w' { x with iv := iv' } := by
 refine (world_next h.wblk h.ins h.bw h.len.2.2.2.1).mono ?_
 rintro e w' ⟨he, iv', hb, hi, hc⟩
 have hv : ∀ {v : Value} {l : List Int}, IRow B w v l → IRow B w' v l := fun hr => ownsRow_chg hr hc (fun b hb e => own_blk hr h.wblk (by decide) (by rw [← e]; exact hb))
 exact ⟨he, iv', h.world (ov' := x.ov) (iv' := iv') (hc.mono (fun b _ e => Or.inl e)) hb (hv h.vrow) (hv h.orow) hi (Lc.refl _ _) ⟨h.len.2.2.1, by have := h.len.2.2.2.1; simp only [List.length_tail]; omega, h.len.2.2.2.2.1⟩⟩
theorem RAt.tell (h : RAt B w x code m u) (a : Int) (hl : u.outs.length + 1 ≤ 2000000) :
  Calls Tryz.prog 146 #[.pointer (some ⟨x.wp, 0, none⟩), .int .i64 a] w fun e w' => e = .returned (.tuple #[]) ∧ ∃ ov', RN B w x code m { u with outs := u.outs ++ [a] } w' { x with ov := ov' } := by
 refine (world_tell h.wblk h.orow a h.len.2.2.1 h.le).mono ?_
 rintro e w' ⟨he, ov', hb, ho, hlc, hc⟩
 refine ⟨he, ov', h.world (ov' := ov') (iv' := x.iv) (hc.mono (fun b _ e => e.elim Or.inl (fun e => Or.inr (Or.inr e)))) hb (ownsRow_chg h.vrow hc (fun b hb e => ?_)) ho (h.ins.below (h.toBelow hc (fun b e => e.elim (fun e => Or.inr (Or.inl e)) (fun e => Or.inr (Or.inr (Or.inr (Or.inr (Or.inr e)))))))) hlc ⟨by simp only [List.length_append, List.length_singleton]; exact hl, h.len.2.2.2.1, h.len.2.2.2.2.1⟩⟩
 rcases e with e | e
 ·subst e; exact own_blk h.vrow h.wblk (by decide) hb
 ·exact h.sepv b hb e
theorem mach_fetch {i : Nat} {s : List Int} (h : RAt B w x code m u) (hs : m.stk = (i : Int) :: s) (hi : i < u.vars.length) :
  Calls Tryz.prog 112 #[.pointer (some ⟨x.mb, 0, none⟩), .int .i64 23] w fun e w' => e = .returned (.tuple #[]) ∧ RN B w x code { m with stk := u.vars.getD i 0 :: s } u w' x := by
 have hl : s.length < 32 := by obtain ⟨cs, _, hcs⟩ := h.mac; have := hcs.mc.le; rw [hs] at this; simp at this; omega
 have hd : Below w.heap.size w w.drew := (Below.refl _ _).drew
 have hD := h.below hd
 have k0 : ∀ u' : {w' : World // w'.cell? ⟨x.mb, 35, none⟩ = some (.pointer (some ⟨x.wp, 0, none⟩))}, u'.val.cell? ⟨x.mb, 35, none⟩ = some (.pointer (some ⟨x.wp, 0, none⟩)) := fun u' => u'.property
 have hne : Nonempty {w' : World // w'.cell? ⟨x.mb, 35, none⟩ = some (.pointer (some ⟨x.wp, 0, none⟩))} := ⟨⟨w, h.c35⟩⟩
 have HD := hidden hD; have HS := hidden hs; have HC := hidden hD.at_.c35
 obtain ⟨v, hv⟩ : ∃ v, v = u.vars.getD i 0 := ⟨_, rfl⟩
 rw [← hv]
 have HV := hidden hv
 clear h hd hD hs hv
 go_enter Tryz.func112, Tryz.ntmps112
 go_upto_region 2 with fail
 refine wp_region_turns (C := OneOf fun w' => w'.cell? ⟨x.mb, 35, none⟩ = some (.pointer (some ⟨x.wp, 0, none⟩))) 13 [10, 11, 12] ⟨w.drew, HC.out⟩ (by kernel_rfl) (by kernel_rfl) rfl ?_
 rw [show List.range 13 = [0, 1, 2, 3, 4, 5, 6, 7, 8, 9, 10, 11, 12] from rfl]
 repeat (refine wpT_step rfl rfl (fun K hK => ?_); go_simp; refine hK _ ?_; clear hK K)
 refine wpT_call1 rfl rfl 108 #[.pointer (some ⟨x.mb, 0, none⟩)] (by go_simp) ((HD.out.at_.take HS.out).mono ?_)
 rintro e w1 ⟨rfl, hn1⟩
 refine ⟨_, rfl, hn1.at_.c35, ?_⟩
 refine wpT_call1 rfl rfl 143 #[.pointer (some ⟨x.wp, 0, none⟩), .int .i64 i] (by go_simp) ((hn1.at_.fetch i hi).mono ?_)
 rintro e w2 ⟨rfl, rfl⟩
 refine ⟨_, rfl, hn1.at_.c35, ?_⟩
 have HN1 := hidden (HD.out.trans hn1)
 have hcA : (w2.alloc (.cells #[.int .i64 v] 3 (0, 0))).cell? ⟨x.mb, 35, none⟩ = some (.pointer (some ⟨x.wp, 0, none⟩)) := by
  have := (hn1.at_.below ((Below.refl _ _).alloc (Nat.le_refl _) (.cells #[.int .i64 v] 3 (0, 0)))).at_.c35
  exact this
 have HPT := hidden (RAt.puts [v] hn1.at_ (by simp only; omega) (by simp only [List.length_cons, List.length_nil]; omega))
 rw [← HV.out]
 refine wpT_turn1 rfl rfl (.slice (some ⟨w2.heap.size, 0, none⟩) 1 1) (w2.alloc (.cells #[.int .i64 v] 3 (0, 0))) hcA (Or.inl (by go_simp)) ?_
 refine wpT_end ?_
 intro w' hw'
 rw [show w' = w2.alloc (.cells #[.int .i64 v] 3 (0, 0)) from hw']
 clear hw' w' k0 hne hcA hn1
 simp only [List.drop_succ_cons, List.drop_zero]
 go_wp2_with fail
 refine HPT.out.mono ?_
 rintro e wz ⟨rfl, hz⟩
 have HZ := hidden (HN1.out.trans hz)
 clear hz HPT
 go_wp2_with fail
 go_end0
 exact ⟨rfl, HZ.out⟩
theorem mach_store {i : Nat} {a : Int} {s : List Int} (h : RAt B w x code m u) (hs : m.stk = (i : Int) :: a :: s) (hi : i < u.vars.length) :
  Calls Tryz.prog 112 #[.pointer (some ⟨x.mb, 0, none⟩), .int .i64 24] w fun e w' => e = .returned (.tuple #[]) ∧ RN B w x code { m with stk := s } { u with vars := u.vars.set i a } w' x := by
 have hd : Below w.heap.size w w.drew := (Below.refl _ _).drew
 have hD := h.below hd
 have hne : Nonempty {w' : World // True} := ⟨⟨w, trivial⟩⟩
 have hmb : x.mb < w.heap.size := h.ltS (Or.inl rfl)
 have HD := hidden hD; have HS := hidden hs
 clear h hd hD hs
 go_enter Tryz.func112, Tryz.ntmps112
 go_upto_region 4 with fail
 refine wp_region_order (C := OneOf fun _ => True) 8 [0, 1, 2, 4, 5, 6, 3, 7] [3, 7] ⟨w.drew, trivial⟩ (by kernel_rfl) (by kernel_rfl) rfl ?_
 repeat (refine wpT_step rfl rfl (fun K hK => ?_); go_simp; refine hK _ ?_; clear hK K)
 refine wpT_call1 rfl rfl 108 #[.pointer (some ⟨x.mb, 0, none⟩)] (by go_simp) ((HD.out.at_.take HS.out).mono ?_)
 rintro e w1 ⟨rfl, hn1⟩
 refine ⟨_, rfl, trivial, ?_⟩
 refine wpT_call1 rfl rfl 108 #[.pointer (some ⟨x.mb, 0, none⟩)] (by go_simp) ((hn1.at_.take rfl).mono ?_)
 rintro e w2 ⟨rfl, hn2⟩
 refine ⟨_, rfl, trivial, wpT_end ?_⟩
 intro w' hw'
 rw [show w' = w2 from hw']
 have HN2 := hidden ((HD.out.trans hn1).trans hn2)
 have c35 := hn2.at_.c35
 have HST := hidden (hn2.at_.store i a hi)
 have hm2 : x.mb < w2.heap.size := hn2.at_.ltS (Or.inl rfl)
 clear hw' w' hne hn1 hn2
 simp only [List.drop_succ_cons, List.drop_zero]
 go_wp2_with fail
 refine HST.out.mono ?_
 rintro e wz ⟨rfl, hz⟩
 have HZ := hidden (HN2.out.trans hz)
 clear hz HST c35
 go_wp2_with fail
 go_end0
 exact ⟨rfl, HZ.out⟩
theorem mach_in (h : RAt B w x code m u) (hl : m.stk.length < 32) :
  Calls Tryz.prog 112 #[.pointer (some ⟨x.mb, 0, none⟩), .int .i64 25] w fun e w' => e = .returned (.tuple #[]) ∧ RNext B w x code { m with stk := u.ins.headD 0 :: m.stk } { u with ins := u.ins.tail } w' := by
 have hd : Below w.heap.size w w.drew := (Below.refl _ _).drew
 have hD := h.below hd
 have k0 : ∀ u' : {w' : World // w'.cell? ⟨x.mb, 35, none⟩ = some (.pointer (some ⟨x.wp, 0, none⟩))}, u'.val.cell? ⟨x.mb, 35, none⟩ = some (.pointer (some ⟨x.wp, 0, none⟩)) := fun u' => u'.property
 have hne : Nonempty {w' : World // w'.cell? ⟨x.mb, 35, none⟩ = some (.pointer (some ⟨x.wp, 0, none⟩))} := ⟨⟨w, h.c35⟩⟩
 have HD := hidden hD; have HC := hidden hD.at_.c35
 obtain ⟨v, hv⟩ : ∃ v, v = u.ins.headD 0 := ⟨_, rfl⟩
 rw [← hv]
 have HV := hidden hv
 clear h hd hD hv
 go_enter Tryz.func112, Tryz.ntmps112
 go_upto_region 7 with fail
 refine wp_region_turns (C := OneOf fun w' => w'.cell? ⟨x.mb, 35, none⟩ = some (.pointer (some ⟨x.wp, 0, none⟩))) 9 [7, 8] ⟨w.drew, HC.out⟩ (by kernel_rfl) (by kernel_rfl) rfl ?_
 rw [show List.range 9 = [0, 1, 2, 3, 4, 5, 6, 7, 8] from rfl]
 repeat (refine wpT_step rfl rfl (fun K hK => ?_); go_simp; refine hK _ ?_; clear hK K)
 refine wpT_call1 rfl rfl 145 #[.pointer (some ⟨x.wp, 0, none⟩)] (by go_simp) ((HD.out.at_.next).mono ?_)
 rintro e w2 ⟨rfl, iv', hn1⟩
 refine ⟨_, rfl, hn1.at_.c35, ?_⟩
 have HN1 := hidden (HD.out.trans hn1)
 have hcA : (w2.alloc (.cells #[.int .i64 v] 3 (0, 0))).cell? ⟨x.mb, 35, none⟩ = some (.pointer (some ⟨x.wp, 0, none⟩)) := by
  have := (hn1.at_.below ((Below.refl _ _).alloc (Nat.le_refl _) (.cells #[.int .i64 v] 3 (0, 0)))).at_.c35
  exact this
 have HPT := hidden (RAt.puts [v] hn1.at_ hl (by simp only [List.length_cons, List.length_nil]; omega))
 rw [← HV.out]
 refine wpT_turn1 rfl rfl (.slice (some ⟨w2.heap.size, 0, none⟩) 1 1) (w2.alloc (.cells #[.int .i64 v] 3 (0, 0))) hcA (Or.inl (by go_simp)) ?_
 refine wpT_end ?_
 intro w' hw'
 rw [show w' = w2.alloc (.cells #[.int .i64 v] 3 (0, 0)) from hw']
 clear hw' w' k0 hne hcA hn1
 simp only [List.drop_succ_cons, List.drop_zero]
 go_wp2_with fail
 refine HPT.out.mono ?_
 rintro e wz ⟨rfl, hz⟩
 have HZ := hidden (HN1.out.trans hz)
 clear hz HPT
 go_wp2_with fail
 go_end0
 exact ⟨rfl, _, HZ.out⟩
theorem mach_out {a : Int} {s : List Int} (h : RAt B w x code m u) (hs : m.stk = a :: s) (hl : u.outs.length + 1 ≤ 2000000) :
  Calls Tryz.prog 112 #[.pointer (some ⟨x.mb, 0, none⟩), .int .i64 26] w fun e w' => e = .returned (.tuple #[]) ∧ RNext B w x code { m with stk := s } { u with outs := u.outs ++ [a] } w' := by
 have hd : Below w.heap.size w w.drew := (Below.refl _ _).drew
 have hD := h.below hd
 have k0 : ∀ u' : {w' : World // w'.cell? ⟨x.mb, 35, none⟩ = some (.pointer (some ⟨x.wp, 0, none⟩))}, u'.val.cell? ⟨x.mb, 35, none⟩ = some (.pointer (some ⟨x.wp, 0, none⟩)) := fun u' => u'.property
 have hne : Nonempty {w' : World // w'.cell? ⟨x.mb, 35, none⟩ = some (.pointer (some ⟨x.wp, 0, none⟩))} := ⟨⟨w, h.c35⟩⟩
 have HD := hidden hD; have HC := hidden hD.at_.c35; have HS := hidden hs
 clear h hd hD hs
 go_enter Tryz.func112, Tryz.ntmps112
 go_upto_region 9 with fail
 refine wp_region_turns (C := OneOf fun w' => w'.cell? ⟨x.mb, 35, none⟩ = some (.pointer (some ⟨x.wp, 0, none⟩))) 8 [7] ⟨w.drew, HC.out⟩ (by kernel_rfl) (by kernel_rfl) rfl ?_
 rw [show List.range 8 = [0, 1, 2, 3, 4, 5, 6, 7] from rfl]
 repeat (refine wpT_step rfl rfl (fun K hK => ?_); go_simp; refine hK _ ?_; clear hK K)
 refine wpT_call1 rfl rfl 108 #[.pointer (some ⟨x.mb, 0, none⟩)] (by go_simp) ((HD.out.at_.take HS.out).mono ?_)
 rintro e w2 ⟨rfl, hn1⟩
 refine ⟨_, rfl, hn1.at_.c35, wpT_end ?_⟩
 intro w' hw'
 rw [show w' = w2 from hw']
 have HN1 := hidden (HD.out.trans hn1)
 have HTL := hidden (hn1.at_.tell a hl)
 clear hw' w' k0 hne hn1
 simp only [List.drop_succ_cons, List.drop_zero]
 go_wp2_with fail
 refine HTL.out.mono ?_
 rintro e wz ⟨rfl, ov', hz⟩
 have HZ := hidden (HN1.out.trans hz)
 clear hz HTL
 go_wp2_with fail
 go_end0
 exact ⟨rfl, _, HZ.out⟩
end
end Go.Proofs.YtcphhbofjkenaaaGreatDoor
namespace Go.Proofs.YtcphhbofjkenaaaGreatDoor
set_option maxRecDepth 100000
set_option maxHeartbeats 16000000
open Go Go.RowKit
set_option linter.unusedVariables false
set_option linter.unusedSimpArgs false
attribute [local go_sem] quietG
section
variable {B : Nat} {w w' : World} {x : RX} {code : List Int} {m m' : MS} {u u' : MW}
theorem RAt.c38 (h : RAt B w x code m u) : w.cell? ⟨x.mb, 38, none⟩ = some (.int .i64 m.at_) ∧ w.frozen? ⟨x.mb, 38, none⟩ = false ∧ x.mb < w.heap.size := by
 obtain ⟨cs, hk, hcs⟩ := h.mac
 exact ⟨hk.cell 38 _ hcs.c38, hk.frozen 38, hk.lt⟩
theorem RAt.c36 (h : RAt B w x code m u) : w.cell? ⟨x.mb, 36, none⟩ = some x.rv := by
 obtain ⟨cs, hk, hcs⟩ := h.mac
 exact hk.cell 36 _ hcs.c36
theorem RAt.setAt (h : RAt B w x code m u) (n : Nat) (hn : n ≤ code.length) : RN B w x code { m with at_ := n } u (w.setCell ⟨x.mb, 38, none⟩ (.int .i64 n)) x := by
 obtain ⟨cs, hk, hcs⟩ := h.mac
 have hc : Chg (fun b => b = x.mb) w (w.setCell ⟨x.mb, 38, none⟩ (.int .i64 n)) := (Chg.refl (fun b => b = x.mb) w).setCell (p := ⟨x.mb, 38, none⟩) rfl _
 have hsz := hcs.mc.size
 have g : ∀ i, i ≠ 38 → (cs.setIfInBounds 38 (.int .i64 n))[i]? = cs[i]? := fun i hi => Array.getElem?_setIfInBounds_ne (Ne.symm hi)
 have hmc : MC (cs.setIfInBounds 38 (.int .i64 n)) m.stk := ⟨by simp [hsz], hcs.mc.stk.congr (fun i hi => g i (by have := hcs.mc.le; omega)), (g 32 (by decide)).trans hcs.mc.dep, hcs.mc.le, fun i hi => by rw [g i (by omega)]; exact hcs.mc.any i hi⟩
 refine h.machine (lv' := x.lv) (cv' := x.cv) (hc.mono (fun b _ e => Or.inl e)) ⟨_, hk.set (o := 38) _, hmc, (g 33 (by decide)).trans hcs.c33, (g 34 (by decide)).trans hcs.c34, (g 35 (by decide)).trans hcs.c35, (g 36 (by decide)).trans hcs.c36, (g 37 (by decide)).trans hcs.c37, by rw [Array.getElem?_setIfInBounds_self_of_lt (by omega)]⟩ (ownsRow_chg h.lrow hc (fun b hb e => own_blk h.lrow hk (by decide) (by rw [← e]; exact hb))) (ownsRow_chg h.crow hc (fun b hb e => own_blk h.crow hk (by decide) (by rw [← e]; exact hb))) (Lc.refl _ _) (Lc.refl _ _) ⟨h.len.1, h.len.2.1, hn⟩
theorem RAt.operand {v : Int} (h : RAt B w x code m u) (hv : code[m.at_]? = some v) :
  Calls Tryz.prog 114 #[.pointer (some ⟨x.mb, 0, none⟩)] w fun e w' => e = .returned (.int .i64 v) ∧ RN B w x code { m with at_ := m.at_ + 1 } u w' x := by
 have hlt : m.at_ < code.length := (List.getElem?_eq_some_iff.1 hv).1
 obtain ⟨c38, f38, hmb⟩ := h.c38
 have hS := h.setAt (m.at_ + 1) (by omega)
 obtain ⟨X, hX⟩ : ∃ X : World, X = w.setCell ⟨x.mb, 38, none⟩ (.int .i64 ((m.at_ + 1 : Nat) : Int)) := ⟨_, rfl⟩
 rw [← hX] at hS
 obtain ⟨x38, _, hmX⟩ := hS.at_.c38
 have x36 := hS.at_.c36
 obtain ⟨g, cap, hrv, hcap, hg, hcell⟩ := hS.at_.cod
 rw [hrv] at x36
 have xg : X.cell? ⟨g, m.at_, none⟩ = some (.int .i64 v) := hcell _ _ hv
 have hcl := h.len.2.2.2.2.2.1
 obtain ⟨k, hk⟩ : ∃ k, k = m.at_ := ⟨_, rfl⟩
 obtain ⟨n, hn⟩ : ∃ n, n = code.length := ⟨_, rfl⟩
 have HS := hidden hS
 rw [← hn] at x36 hlt hcap hcl
 simp only at x38
 rw [← hk] at c38 x38 xg hlt hX
 have HX := hidden hX
 have hki : (k : Int) < (n : Int) := by omega
 have hk0 : (0 : Int) ≤ (k : Int) := by omega
 have hkb : (k : Int) ≤ 1000 := by omega
 have hcast : ((k + 1 : Nat) : Int) = (k : Int) + 1 := by omega
 rw [hcast] at x38 HX
 have hgX : g < X.heap.size := Nat.lt_of_lt_of_le hg hS.at_.le
 clear h hS hX hv hcell hrv hn hk hcast
 go_enter Tryz.func114, Tryz.ntmps114
 go_upto_region 2 with fail
 rw [← HX.out]
 clear c38 f38
 go_wp2_with fail
 go_quiet (fail)
 go_wp2_with fail
 go_ret
 have hbq : Below X.heap.size X (X.drewN nq) := ⟨rfl, rfl, rfl, Nat.le_refl _, fun _ _ => rfl⟩
 exact ⟨rfl, HS.out.trans (HS.out.at_.below hbq)⟩
theorem RAt.callP (h : RAt B w x code m u) (p : Int) (hl : m.calls.length + 1 ≤ 2000000) :
  Calls Tryz.prog 150 #[.pointer (some ⟨x.mb, 34, none⟩), .int .i64 p] w fun e w' => e = .returned (.tuple #[]) ∧ RNext B w x code { m with calls := m.calls ++ [p] } u w' := by
 obtain ⟨cs, hk, hcs⟩ := h.mac
 refine (mach_call hk hcs.c34 h.crow p h.len.2.1 h.le).mono ?_
 rintro e w' ⟨he, cv', hk', hr', hlc, hc⟩
 have hsz := hcs.mc.size
 have g : ∀ i, i ≠ 34 → (cs.setIfInBounds 34 cv')[i]? = cs[i]? := fun i hi => Array.getElem?_setIfInBounds_ne (Ne.symm hi)
 have hmc : MC (cs.setIfInBounds 34 cv') m.stk := ⟨by simp [hsz], hcs.mc.stk.congr (fun i hi => g i (by have := hcs.mc.le; omega)), (g 32 (by decide)).trans hcs.mc.dep, hcs.mc.le, fun i hi => by rw [g i (by omega)]; exact hcs.mc.any i hi⟩
 refine ⟨he, _, h.machine (lv' := x.lv) (cv' := cv') (hc.mono (fun b _ e => e.elim Or.inl (fun e => Or.inr (Or.inr e)))) ⟨_, hk', hmc, (g 33 (by decide)).trans hcs.c33, by rw [Array.getElem?_setIfInBounds_self_of_lt (by omega)], (g 35 (by decide)).trans hcs.c35, (g 36 (by decide)).trans hcs.c36, (g 37 (by decide)).trans hcs.c37, (g 38 (by decide)).trans hcs.c38⟩ (ownsRow_chg h.lrow hc (fun b hb e => ?_)) hr' (Lc.refl _ _) hlc ⟨h.len.1, by simp only [List.length_append, List.length_singleton]; exact hl, h.len.2.2.2.2.2.2⟩⟩
 rcases e with e | e
 ·subst e; exact own_blk h.lrow hk (by decide) hb
 ·exact own_own h.lrow h.crow (by decide) hb e
theorem RAt.caller0 (h : RAt B w x code m u) (hc : m.calls = []) :
  Calls Tryz.prog 147 #[.pointer (some ⟨x.mb, 34, none⟩)] w fun e w' => e = .returned (.tuple #[.int .i64 0, .bool false]) ∧ w' = w := by
 obtain ⟨cs, hk, hcs⟩ := h.mac
 have hr := h.crow
 rw [hc] at hr
 exact mach_caller0 hk hcs.c34 hr
theorem RAt.caller {l : List Int} {p : Int} (h : RAt B w x code m u) (hc : m.calls = l ++ [p]) :
  Calls Tryz.prog 147 #[.pointer (some ⟨x.mb, 34, none⟩)] w fun e w' => e = .returned (.tuple #[.int .i64 p, .bool true]) ∧ RNext B w x code { m with calls := l } u w' := by
 obtain ⟨cs, hk, hcs⟩ := h.mac
 have hr := h.crow
 have hl := h.len.2.1
 rw [hc] at hr hl
 simp at hl
 refine (mach_caller hk hcs.c34 hr (by omega)).mono ?_
 rintro e w' ⟨he, cv', hk', hr', hlc, hcg⟩
 have hsz := hcs.mc.size
 have g : ∀ i, i ≠ 34 → (cs.setIfInBounds 34 cv')[i]? = cs[i]? := fun i hi => Array.getElem?_setIfInBounds_ne (Ne.symm hi)
 have hmc : MC (cs.setIfInBounds 34 cv') m.stk := ⟨by simp [hsz], hcs.mc.stk.congr (fun i hi => g i (by have := hcs.mc.le; omega)), (g 32 (by decide)).trans hcs.mc.dep, hcs.mc.le, fun i hi => by rw [g i (by omega)]; exact hcs.mc.any i hi⟩
 exact ⟨he, _, h.machine (lv' := x.lv) (cv' := cv') (hcg.mono (fun b _ e => Or.inl e)) ⟨_, hk', hmc, (g 33 (by decide)).trans hcs.c33, by rw [Array.getElem?_setIfInBounds_self_of_lt (by omega)], (g 35 (by decide)).trans hcs.c35, (g 36 (by decide)).trans hcs.c36, (g 37 (by decide)).trans hcs.c37, (g 38 (by decide)).trans hcs.c38⟩ (ownsRow_chg h.lrow hcg (fun b hb e => own_blk h.lrow hk (by decide) (by rw [← e]; exact hb))) hr' (Lc.refl _ _) hlc ⟨h.len.1, by simp only; omega, h.len.2.2.2.2.2.2⟩⟩
theorem RAt.loopsSet {lv' : Value} {l : List (Int × Int)} (h : RAt B w x code m u) {cs : Array Value} (hk0 : Blk w x.mb cs 116) (hcs : CsAt x m cs) (hk : Blk w' x.mb (cs.setIfInBounds 33 lv') 116) (hr : LRow B w' lv' l) (hlc : Lc w x.lv lv') (hc : Chg (fun b => b = x.mb ∨ x.lv.ownBlock = some b) w w') (hl : l.length ≤ 2000000) :
  RN B w x code { m with loops := l } u w' { x with lv := lv', cv := x.cv } := by
 have hsz := hcs.mc.size
 have g : ∀ i, i ≠ 33 → (cs.setIfInBounds 33 lv')[i]? = cs[i]? := fun i hi => Array.getElem?_setIfInBounds_ne (Ne.symm hi)
 have hmc : MC (cs.setIfInBounds 33 lv') m.stk := ⟨by simp [hsz], hcs.mc.stk.congr (fun i hi => g i (by have := hcs.mc.le; omega)), (g 32 (by decide)).trans hcs.mc.dep, hcs.mc.le, fun i hi => by rw [g i (by omega)]; exact hcs.mc.any i hi⟩
 refine h.machine (lv' := lv') (cv' := x.cv) (hc.mono (fun b _ e => e.elim Or.inl (fun e => Or.inr (Or.inl e)))) ⟨_, hk, hmc, by rw [Array.getElem?_setIfInBounds_self_of_lt (by omega)], (g 34 (by decide)).trans hcs.c34, (g 35 (by decide)).trans hcs.c35, (g 36 (by decide)).trans hcs.c36, (g 37 (by decide)).trans hcs.c37, (g 38 (by decide)).trans hcs.c38⟩ hr (ownsRow_chg h.crow hc (fun b hb e => ?_)) hlc (Lc.refl _ _) ⟨hl, h.len.2.1, h.len.2.2.2.2.2.2⟩
 rcases e with e | e
 ·subst e; exact own_blk h.crow hk0 (by decide) hb
 ·exact own_own h.lrow h.crow (by decide) e hb
theorem RAt.enter (h : RAt B w x code m u) (a b : Int) (hab : a < b) (hl : m.loops.length + 1 ≤ 2000000) :
  Calls Tryz.prog 148 #[.pointer (some ⟨x.mb, 33, none⟩), .int .i64 a, .int .i64 b] w fun e w' => e = .returned (.bool true) ∧ RNext B w x code { m with loops := m.loops ++ [(a, b)] } u w' := by
 obtain ⟨cs, hk, hcs⟩ := h.mac
 refine (mach_enter hk hcs.c33 h.lrow a b h.len.1 h.le hab).mono ?_
 rintro e w' ⟨he, lv', hk', hr', hlc, hc⟩
 exact ⟨he, _, h.loopsSet hk hcs hk' hr' hlc hc (by simpa using hl)⟩
theorem RAt.number {l : List (Int × Int)} {a b : Int} (h : RAt B w x code m u) (hs : m.loops = l ++ [(a, b)]) :
  Calls Tryz.prog 113 #[.pointer (some ⟨x.mb, 33, none⟩)] w fun e w' => e = .returned (.int .i64 a) ∧ Below w.heap.size w w' := by
 obtain ⟨cs, hk, hcs⟩ := h.mac
 have hr := h.lrow
 have hl := h.len.1
 rw [hs] at hr hl
 simp at hl
 exact mach_number hk hcs.c33 hr (by omega)
theorem RAt.again {l : List (Int × Int)} {a b : Int} (h : RAt B w x code m u) (hs : m.loops = l ++ [(a, b)]) (h0 : -9000000000 ≤ a) (h1 : a ≤ 9000000000) :
  Calls Tryz.prog 149 #[.pointer (some ⟨x.mb, 33, none⟩)] w fun e w' => e = .returned (.bool (decide (a + 1 < b))) ∧ RNext B w x code { m with loops := if a + 1 < b then l ++ [(a + 1, b)] else l } u w' := by
 obtain ⟨cs, hk, hcs⟩ := h.mac
 have hr := h.lrow
 have hl := h.len.1
 rw [hs] at hr hl
 simp at hl
 refine (mach_again hk hcs.c33 hr (by omega) h0 h1).mono ?_
 rintro e w' ⟨he, lv', hk', hr', hlc, hc⟩
 refine ⟨he, _, h.loopsSet hk hcs hk' hr' hlc hc ?_⟩
 split
 ·rw [List.length_append, List.length_singleton]; omega
 ·omega
end
end Go.Proofs.YtcphhbofjkenaaaGreatDoor
namespace Go.Proofs.YtcphhbofjkenaaaGreatDoor
set_option maxRecDepth 100000
set_option maxHeartbeats 16000000
open Go Go.RowKit
set_option linter.unusedVariables false
set_option linter.unusedSimpArgs false
attribute [local go_sem] quietG
section
variable {B : Nat} {w w' : World} {x : RX} {code : List Int} {m m' : MS} {u u' : MW}
theorem mach_leave0 (h : RAt B w x code m u) (hc : m.calls = []) :
  Calls Tryz.prog 115 #[.pointer (some ⟨x.mb, 0, none⟩)] w fun e w' => e = .returned (.int .i64 0) ∧ w' = w := by
 have HC := hidden (h.caller0 hc)
 have hmb := h.c38.2.2
 clear h hc
 go_enter Tryz.func115, Tryz.ntmps115
 go_wp2_with fail
 refine HC.out.mono ?_
 rintro e w1 ⟨rfl, rfl⟩
 clear HC
 go_wp2_with fail
 go_ret
 exact ⟨rfl, rfl⟩
theorem mach_leave {l : List Int} {p : Nat} (h : RAt B w x code m u) (hc : m.calls = l ++ [(p : Int)]) (hp : p ≤ code.length) :
  Calls Tryz.prog 115 #[.pointer (some ⟨x.mb, 0, none⟩)] w fun e w' => e = .returned (.int .i64 4) ∧ RNext B w x code { m with calls := l, at_ := p } u w' := by
 have HC := hidden (h.caller hc)
 have hmb := h.c38.2.2
 clear h hc
 go_enter Tryz.func115, Tryz.ntmps115
 go_wp2_with fail
 refine HC.out.mono ?_
 rintro e w1 ⟨rfl, y, hn⟩
 have hst := hn.at_.setAt p hp
 obtain ⟨c38, f38, hm1⟩ := hn.at_.c38
 rw [hn.mb] at c38 f38 hm1 hst
 have HN := hidden hn; have HST := hidden hst
 clear hn hst HC
 go_wp2_with fail
 go_ret
 exact ⟨rfl, y, HN.out.trans HST.out⟩
theorem jump_end {y : RX} {k : Nat} (h : RN B w x code m' u w' y) (hk : k ≤ code.length) : RN B w x code { m' with at_ := k } u (w'.setCell ⟨x.mb, 38, none⟩ (.int .i64 k)) y := by
 have := h.at_.setAt k hk
 rw [h.mb] at this
 exact h.trans this
theorem mach_else {k : Nat} (h : RAt B w x code m u) (hv : code[m.at_]? = some (k : Int)) (hk : k ≤ code.length) :
  Calls Tryz.prog 116 #[.pointer (some ⟨x.mb, 0, none⟩), .int .i64 30] w fun e w' => e = .returned (.tuple #[]) ∧ RNext B w x code { m with at_ := k } u w' := by
 have HC := hidden (h.operand hv)
 have hmb := h.c38.2.2
 clear h hv
 go_enter Tryz.func116, Tryz.ntmps116
 go_wp2_with fail
 refine HC.out.mono ?_
 rintro e w1 ⟨rfl, hn⟩
 obtain ⟨c38, f38, hm1⟩ := hn.at_.c38
 have HN := hidden hn
 clear hn HC
 go_wp2_with fail
 go_end0
 exact ⟨rfl, _, jump_end (m' := { m with at_ := m.at_ + 1 }) HN.out hk⟩
theorem mach_if {k : Nat} {a : Int} {s : List Int} (h : RAt B w x code m u) (hv : code[m.at_]? = some (k : Int)) (hk : k ≤ code.length) (hs : m.stk = a :: s) :
  Calls Tryz.prog 116 #[.pointer (some ⟨x.mb, 0, none⟩), .int .i64 29] w fun e w' => e = .returned (.tuple #[]) ∧ RNext B w x code { m with stk := s, at_ := if a = 0 then k else m.at_ + 1 } u w' := by
 have HC := hidden (h.operand hv)
 have hmb := h.c38.2.2
 have HS := hidden hs
 obtain ⟨K, hK⟩ : ∃ K, K = if a = 0 then k else m.at_ + 1 := ⟨_, rfl⟩
 rw [← hK]
 have HK := hidden hK
 clear h hv hs hK
 go_enter Tryz.func116, Tryz.ntmps116
 go_wp2_with fail
 refine HC.out.mono ?_
 rintro e w1 ⟨rfl, hn⟩
 have HT := hidden (hn.at_.take HS.out)
 have hm1 := hn.at_.c38.2.2
 have HN := hidden hn
 clear hn HC
 go_wp2_with fail
 refine HT.out.mono ?_
 rintro e w2 ⟨rfl, hn2⟩
 obtain ⟨c38, f38, hm2⟩ := hn2.at_.c38
 have HN2 := hidden (HN.out.trans hn2)
 clear hn2 HT
 by_cases ha : a = 0
 ·have hd : (a == 0) = true := by simp [ha]
  have HKE : Hid (K = k) := by show K = k; rw [HK.out, if_pos ha]
  have HA := hidden ha
  clear ha HK
  go_wp2_with fail
  go_end0
  rw [HKE.out]
  exact ⟨rfl, _, jump_end HN2.out hk⟩
 ·have hd : (a == 0) = false := by simp [ha]
  have HKE : Hid (K = m.at_ + 1) := by show K = _; rw [HK.out, if_neg ha]
  clear HK
  go_wp2_with fail
  go_end0
  rw [HKE.out]
  exact ⟨rfl, _, HN2.out⟩
theorem mach_do {k : Nat} {a b : Int} {s : List Int} (h : RAt B w x code m u) (hv : code[m.at_]? = some (k : Int)) (hk : k ≤ code.length) (hs : m.stk = a :: b :: s) (hl : m.loops.length + 1 ≤ 2000000) :
  Calls Tryz.prog 116 #[.pointer (some ⟨x.mb, 0, none⟩), .int .i64 31] w fun e w' => e = .returned (.tuple #[]) ∧ RNext B w x code (if a < b then { m with stk := s, loops := m.loops ++ [(a, b)], at_ := m.at_ + 1 } else { m with stk := s, at_ := k }) u w' := by
 have HC := hidden (h.operand hv)
 have hmb := h.c38.2.2
 have HS := hidden hs
 obtain ⟨K, hK⟩ : ∃ K, K = (if a < b then { m with stk := s, loops := m.loops ++ [(a, b)], at_ := m.at_ + 1 } else { m with stk := s, at_ := k }) := ⟨_, rfl⟩
 rw [← hK]
 have HK := hidden hK
 have hne : Nonempty {w' : World // True} := ⟨⟨w, trivial⟩⟩
 clear h hv hs hK
 go_enter Tryz.func116, Tryz.ntmps116
 go_wp2_with fail
 refine HC.out.mono ?_
 rintro e w1 ⟨rfl, hn⟩
 have hD := hn.at_.below (Below.drew (Below.refl w1.heap.size w1))
 have HN := hidden hn; have HD := hidden hD
 clear hn hD HC
 go_upto_region 6 with fail
 refine wp_region_order (C := OneOf fun _ => True) 8 [0, 1, 2, 4, 5, 6, 3, 7] [3, 7] ⟨w1.drew, trivial⟩ (by kernel_rfl) (by kernel_rfl) rfl ?_
 repeat (refine wpT_step rfl rfl (fun K hK => ?_); go_simp; refine hK _ ?_; clear hK K)
 refine wpT_call1 rfl rfl 108 #[.pointer (some ⟨x.mb, 0, none⟩)] (by go_simp) ((HD.out.at_.take HS.out).mono ?_)
 rintro e w2 ⟨rfl, hn1⟩
 refine ⟨_, rfl, trivial, ?_⟩
 refine wpT_call1 rfl rfl 108 #[.pointer (some ⟨x.mb, 0, none⟩)] (by go_simp) ((hn1.at_.take rfl).mono ?_)
 rintro e w3 ⟨rfl, hn2⟩
 refine ⟨_, rfl, trivial, wpT_end ?_⟩
 intro w' hw'
 rw [show w' = w3 from hw']
 have HN2 := hidden (((HN.out.trans HD.out).trans hn1).trans hn2)
 obtain ⟨c38, f38, hm3⟩ := hn2.at_.c38
 have HAT := hidden hn2.at_
 clear hw' w' hne hn1 hn2 HN HD
 simp only [List.drop_succ_cons, List.drop_zero]
 by_cases hab : a < b
 ·have HKE : Hid (K = { m with stk := s, loops := m.loops ++ [(a, b)], at_ := m.at_ + 1 }) := by show K = _; rw [HK.out, if_pos hab]
  have HE := hidden (HAT.out.enter a b hab hl)
  clear HK HAT
  go_wp2_with fail
  refine HE.out.mono ?_
  rintro e w4 ⟨rfl, y, hn4⟩
  have HN4 := hidden (HN2.out.trans hn4)
  clear hn4 HE
  go_wp2_with fail
  go_end0
  rw [HKE.out]
  exact ⟨rfl, y, HN4.out⟩
 ·have HKE : Hid (K = { m with stk := s, at_ := k }) := by show K = _; rw [HK.out, if_neg hab]
  have HE := hidden (mach_enter0 (w := w3) (mb := x.mb) a b hab)
  clear HK HAT
  go_wp2_with fail
  refine HE.out.mono ?_
  rintro e w4 ⟨rfl, rfl⟩
  clear HE
  go_wp2_with fail
  go_end0
  rw [HKE.out]
  exact ⟨rfl, _, jump_end HN2.out hk⟩
theorem mach_loop {k : Nat} {a b : Int} {l : List (Int × Int)} (h : RAt B w x code m u) (hv : code[m.at_]? = some (k : Int)) (hk : k ≤ code.length) (hs : m.loops = l ++ [(a, b)]) (h0 : -9000000000 ≤ a) (h1 : a ≤ 9000000000) :
  Calls Tryz.prog 116 #[.pointer (some ⟨x.mb, 0, none⟩), .int .i64 32] w fun e w' => e = .returned (.tuple #[]) ∧ RNext B w x code (if a + 1 < b then { m with loops := l ++ [(a + 1, b)], at_ := k } else { m with loops := l, at_ := m.at_ + 1 }) u w' := by
 have HC := hidden (h.operand hv)
 have hmb := h.c38.2.2
 have HS := hidden hs
 obtain ⟨K, hK⟩ : ∃ K, K = (if a + 1 < b then { m with loops := l ++ [(a + 1, b)], at_ := k } else { m with loops := l, at_ := m.at_ + 1 }) := ⟨_, rfl⟩
 rw [← hK]
 have HK := hidden hK
 clear h hv hs hK
 go_enter Tryz.func116, Tryz.ntmps116
 go_wp2_with fail
 refine HC.out.mono ?_
 rintro e w1 ⟨rfl, hn⟩
 have HT := hidden (hn.at_.again HS.out h0 h1)
 have hm1 := hn.at_.c38.2.2
 have HN := hidden hn
 clear hn HC
 by_cases hab : a + 1 < b
 ·have hd : decide (a + 1 < b) = true := decide_eq_true hab
  have HKE : Hid (K = { m with loops := l ++ [(a + 1, b)], at_ := k }) := by show K = _; rw [HK.out, if_pos hab]
  rw [hd, if_pos hab] at HT
  clear HK hd
  go_wp2_with fail
  refine HT.out.mono ?_
  rintro e w2 ⟨rfl, y, hn2⟩
  obtain ⟨c38, f38, hm2⟩ := hn2.at_.c38
  rw [hn2.mb] at c38 f38 hm2
  have HN2 := hidden (HN.out.trans hn2)
  clear hn2 HT
  go_wp2_with fail
  go_end0
  rw [HKE.out]
  exact ⟨rfl, y, jump_end HN2.out hk⟩
 ·have hd : decide (a + 1 < b) = false := decide_eq_false hab
  have HKE : Hid (K = { m with loops := l, at_ := m.at_ + 1 }) := by show K = _; rw [HK.out, if_neg hab]
  rw [hd, if_neg hab] at HT
  clear HK hd
  go_wp2_with fail
  refine HT.out.mono ?_
  rintro e w2 ⟨rfl, y, hn2⟩
  have HN2 := hidden (HN.out.trans hn2)
  clear hn2 HT
  go_wp2_with fail
  go_end0
  rw [HKE.out]
  exact ⟨rfl, y, HN2.out⟩
theorem mach_callw {k : Nat} (h : RAt B w x code m u) (hv : code[m.at_]? = some (k : Int)) (hk : k ≤ code.length) (hl : m.calls.length + 1 ≤ 2000000) :
  Calls Tryz.prog 116 #[.pointer (some ⟨x.mb, 0, none⟩), .int .i64 33] w fun e w' => e = .returned (.tuple #[]) ∧ RNext B w x code { m with calls := m.calls ++ [((m.at_ + 1 : Nat) : Int)], at_ := k } u w' := by
 have HC := hidden (h.operand hv)
 have hmb := h.c38.2.2
 obtain ⟨q, hq⟩ : ∃ q : Int, q = ((m.at_ + 1 : Nat) : Int) := ⟨_, rfl⟩
 rw [← hq]
 have HQ := hidden hq
 clear h hv hq
 go_enter Tryz.func116, Tryz.ntmps116
 go_wp2_with fail
 refine HC.out.mono ?_
 rintro e w1 ⟨rfl, hn⟩
 have hD := hn.at_.below (Below.drew (Below.refl w1.heap.size w1))
 obtain ⟨d38, _, hmd⟩ := hD.at_.c38
 obtain ⟨c38, _, hm1⟩ := hn.at_.c38
 simp only at d38 c38
 rw [← HQ.out] at d38 c38
 have hne : Nonempty {w' : World // w'.cell? ⟨x.mb, 38, none⟩ = some (.int .i64 q)} := ⟨⟨w1, c38⟩⟩
 have k0 : ∀ u' : {w' : World // w'.cell? ⟨x.mb, 38, none⟩ = some (.int .i64 q)}, u'.val.cell? ⟨x.mb, 38, none⟩ = some (.int .i64 q) := fun u' => u'.property
 have HN := hidden hn; have HD := hidden hD
 clear hn hD HC
 go_upto_region 11 with fail
 refine wp_region_turns (C := OneOf fun w' => w'.cell? ⟨x.mb, 38, none⟩ = some (.int .i64 q)) 7 [] ⟨w1.drew, d38⟩ (by kernel_rfl) (by kernel_rfl) rfl ?_
 rw [show List.range 7 = [0, 1, 2, 3, 4, 5, 6] from rfl]
 repeat (refine wpT_step rfl rfl (fun K hK => ?_); go_simp; refine hK _ ?_; clear hK K)
 refine wpT_end ?_
 intro w' hw'
 rw [show w' = w1.drew from hw']
 clear hw' w' hne k0 c38 d38
 have HE := hidden (HD.out.at_.callP q hl)
 simp only [List.drop_succ_cons, List.drop_zero]
 go_wp2_with fail
 refine HE.out.mono ?_
 rintro e w2 ⟨rfl, y, hn2⟩
 obtain ⟨c38, f38, hm2⟩ := hn2.at_.c38
 rw [hn2.mb] at c38 f38 hm2
 have HN2 := hidden ((HN.out.trans HD.out).trans hn2)
 clear hn2 HE
 go_wp2_with fail
 go_end0
 exact ⟨rfl, y, jump_end HN2.out hk⟩
end
end Go.Proofs.YtcphhbofjkenaaaGreatDoor
namespace Go.Proofs.YtcphhbofjkenaaaGreatDoor
set_option maxRecDepth 100000
set_option maxHeartbeats 16000000
open Go Go.RowKit
set_option linter.unusedVariables false
set_option linter.unusedSimpArgs false
attribute [local go_sem] quietG
section
variable {B : Nat} {w w' : World} {x : RX} {code : List Int} {m m' : MS} {u u' : MW}
def hindP (k : Nat) (s : List Int) (n : Nat) : Int :=
 if (s.length : Int) < (opInf k).need then 1 else if (k = 23 ∨ k = 24) ∧ ¬ (0 ≤ s.headD 0 ∧ s.headD 0 < (n : Int)) then 3 else if 32 < (s.length : Int) + (opInf k).net then 2 else 4
theorem RAt.c32 (h : RAt B w x code m u) : w.cell? ⟨x.mb, 32, none⟩ = some (.int .i64 m.stk.length) ∧ m.stk.length ≤ 32 := by
 obtain ⟨cs, hk, hcs⟩ := h.mac
 exact ⟨hk.cell 32 _ hcs.mc.dep, hcs.mc.le⟩
theorem RAt.top {a : Int} {s : List Int} (h : RAt B w x code m u) (hs : m.stk = a :: s) :
  Calls Tryz.prog 139 #[.pointer (some ⟨x.mb, 0, none⟩)] w fun e w' => e = .returned (.int .i64 a) ∧ Below w.heap.size w w' := by
 obtain ⟨cs, hk, hcs⟩ := h.mac
 have := hcs.mc
 rw [hs] at this
 exact mach_top hk this
theorem RAt.has (h : RAt B w x code m u) (a : Int) :
  Calls Tryz.prog 138 #[.pointer (some ⟨x.wp, 0, none⟩), .int .i64 a] w fun e w' => e = .returned (.bool (decide (0 ≤ a ∧ a < u.vars.length))) ∧ w' = w := by
 obtain ⟨va, vc, hv, _, _⟩ := row_shape h.vrow
 have hb := h.wblk
 rw [hv] at hb
 exact world_has hb a h.len.2.2.2.2.1
theorem mach_hind (k : Nat) (hk : k < 35) (h : RAt B w x code m u) (ht : Tab w) :
  Calls Tryz.prog 107 #[.pointer (some ⟨x.mb, 0, none⟩), .int .i64 k] w fun e w' => e = .returned (.int .i64 (hindP k m.stk u.vars.length)) ∧ Below w.heap.size w w' := by
 have HEF := hidden (code_effect k w hk ht)
 obtain ⟨R, hR⟩ : ∃ R, R = hindP k m.stk u.vars.length := ⟨_, rfl⟩
 rw [← hR]
 have hR2 := hR
 unfold hindP at hR2
 have hbd := opTab_bd k hk
 obtain ⟨n1, n2, n3, n4, n5, hI⟩ : ∃ (a b c d : Int) (e : Bool), (opInf k).tm = .agg #[.int .i64 a, .int .i64 b, .int .i64 c, .int .i64 d, .bool e] ∧ a = (opInf k).need ∧ b = (opInf k).net := ⟨_, _, _, _, _, rfl, rfl, rfl⟩
 obtain ⟨hI, hn1, hn2⟩ := hI
 have hb1 : 0 ≤ n1 ∧ n1 ≤ 3 ∧ -3 ≤ n2 ∧ n2 ≤ 3 := by rw [hn1, hn2]; simp only [opInf]; omega
 rw [hI] at HEF
 rw [← hn1, ← hn2] at hR2
 obtain ⟨hb1, hb2, hb3, hb4⟩ := hb1
 have HR := hidden hR2; have H := hidden h
 have hmb := h.c38.2.2
 have h32 := h.c32.2
 have HN1 := hidden hn1
 clear hR hR2 h ht hbd hI hn1 hn2
 go_enter Tryz.func107, Tryz.ntmps107
 go_wp2_with fail
 refine HEF.out.mono ?_
 rintro e w1 ⟨rfl, hbe⟩
 obtain ⟨X, hX⟩ : ∃ X : World, X = w1.alloc (.cells #[.int .i64 n1, .int .i64 n2, .int .i64 n3, .int .i64 n4, .bool n5] 151 (0, 0)) := ⟨_, rfl⟩
 obtain ⟨eb, heb⟩ : ∃ eb, eb = w1.heap.size := ⟨_, rfl⟩
 have hbX : Below w.heap.size w X := by rw [hX]; exact hbe.alloc hbe.size _
 have hkX : Blk X eb #[.int .i64 n1, .int .i64 n2, .int .i64 n3, .int .i64 n4, .bool n5] 151 := by rw [hX, heb]; exact blk_new w1 _ _
 have hAX := H.out.below hbX
 have x0 : X.cell? ⟨eb, 0, none⟩ = some (.int .i64 n1) := hkX.cell 0 _ rfl
 have x1 : X.cell? ⟨eb, 1, none⟩ = some (.int .i64 n2) := hkX.cell 1 _ rfl
 have x32 := hAX.at_.c32.1
 obtain ⟨d, hd⟩ : ∃ d, d = m.stk.length := ⟨_, rfl⟩
 rw [← hd] at x32 h32
 have hdd := HR.out
 rw [← hd] at hdd
 have HR2 := hidden hdd
 have HD := hidden hd
 have HX := hidden hX; have HEB := hidden heb; have HBX := hidden hbX; have HKX := hidden hkX; have HAX := hidden hAX
 have hmX := hAX.at_.c38.2.2
 clear hX heb hbX hkX hAX hbe HEF hd hdd HR
 go_upto_region 2 with fail
 rw [← HX.out, ← HEB.out]
 by_cases hlt : (d : Int) < n1
 ·have hdt : decide ((d : Int) < n1) = true := decide_eq_true hlt
  have hfin : Hid (R = 1) := by show R = 1; rw [HR2.out, if_pos hlt]
  clear HR2
  go_wp2_with fail
  go_quiet (fail)
  go_wp2_with fail
  rw [hfin.out]
  go_ret
  exact ⟨rfl, HBX.out.trans ⟨rfl, rfl, rfl, Nat.le_refl _, fun _ _ => rfl⟩⟩
 ·have hdt : decide ((d : Int) < n1) = false := decide_eq_false hlt
  have hr3 := HR2.out
  rw [if_neg hlt] at hr3
  have HR3 := hidden hr3
  clear hr3 HR2
  go_wp2_with fail
  go_quiet (fail)
  have hbq : Below X.heap.size X (X.drewN nq) := ⟨rfl, rfl, rfl, Nat.le_refl _, fun _ _ => rfl⟩
  obtain ⟨V, hV⟩ : ∃ V : World, V = X.drewN nq := ⟨_, rfl⟩
  rw [← hV] at hbq
  rw [← hV]
  have hAV := HAX.out.at_.below hbq
  have hkV := HKX.out.sub hbq HKX.out.lt
  have HBV := hidden (HBX.out.trans (hbq.mono HBX.out.size)); have HAV := hidden hAV; have HKV := hidden hkV
  have v1 : V.cell? ⟨eb, 1, none⟩ = some (.int .i64 n2) := hkV.cell 1 _ rfl
  have v32 := hAV.at_.c32.1
  rw [← HD.out] at v32
  have hmV := hAV.at_.c38.2.2
  have hebV := hkV.lt
  clear hV hbq hAV hkV x0 x1 x32 HX HEB HBX HKX HAX
  by_cases h2 : k = 23 ∨ k = 24
  ·rcases h2 with rfl | rfl
   ·have hne1 : 1 ≤ n1 := by rw [HN1.out]; decide
    obtain ⟨a, s, hs⟩ : ∃ a s, m.stk = a :: s := by
     cases hq : m.stk with
     | nil => have := HD.out; rw [hq] at this; simp at this; omega
     | cons a s => exact ⟨a, s, rfl⟩
    have hr4 := HR3.out
    rw [hs] at hr4
    simp only [List.headD_cons] at hr4
    have HR4 := hidden hr4; have HS := hidden hs
    have g1 : (((23 : Nat) : Int) == 23) = true := by decide
    have g2 : (((23 : Nat) : Int) == 24) = false := by decide
    have hD := HAV.out.at_.below (Below.drew (Below.refl V.heap.size V))
    have k0 : ∀ u' : {w' : World // w'.cell? ⟨x.mb, 35, none⟩ = some (.pointer (some ⟨x.wp, 0, none⟩))}, u'.val.cell? ⟨x.mb, 35, none⟩ = some (.pointer (some ⟨x.wp, 0, none⟩)) := fun u' => u'.property
    have hne : Nonempty {w' : World // w'.cell? ⟨x.mb, 35, none⟩ = some (.pointer (some ⟨x.wp, 0, none⟩))} := ⟨⟨V, HAV.out.at_.c35⟩⟩
    have HDD := hidden hD; have HC := hidden hD.at_.c35
    clear hr4 HR3 hs hD
    go_upto_region 4 with fail
    refine wp_region_turns (C := OneOf fun w' => w'.cell? ⟨x.mb, 35, none⟩ = some (.pointer (some ⟨x.wp, 0, none⟩))) 18 [14, 15] ⟨V.drew, HC.out⟩ (by kernel_rfl) (by kernel_rfl) rfl ?_
    rw [show List.range 18 = [0, 1, 2, 3, 4, 5, 6, 7, 8, 9, 10, 11, 12, 13, 14, 15, 16, 17] from rfl]
    repeat (refine wpT_step rfl rfl (fun K hK => ?_); go_simp; refine hK _ ?_; clear hK K)
    refine wpT_call1 rfl rfl 139 #[.pointer (some ⟨x.mb, 0, none⟩)] (by go_simp) ((HDD.out.at_.top HS.out).mono ?_)
    rintro e w2 ⟨rfl, hb2⟩
    have hn2 := HDD.out.at_.below hb2
    refine ⟨_, rfl, hn2.at_.c35, ?_⟩
    refine wpT_call1 rfl rfl 138 #[.pointer (some ⟨x.wp, 0, none⟩), .int .i64 a] (by go_simp) ((hn2.at_.has a).mono ?_)
    rintro e w3 ⟨rfl, rfl⟩
    refine ⟨_, rfl, hn2.at_.c35, ?_⟩
    obtain ⟨b, hb⟩ : ∃ b, b = decide (0 ≤ a ∧ a < (u.vars.length : Int)) := ⟨_, rfl⟩
    rw [← hb]
    have HB := hidden hb
    have hbV : Below V.heap.size V w3 := (Below.drew (Below.refl V.heap.size V)).trans hb2
    have z1 : w3.cell? ⟨eb, 1, none⟩ = some (.int .i64 n2) := (hbV.cell (p := ⟨eb, 1, none⟩) hebV).trans v1
    have z32 : w3.cell? ⟨x.mb, 32, none⟩ = some (.int .i64 d) := (hbV.cell (p := ⟨x.mb, 32, none⟩) hmV).trans v32
    have HBZ := hidden (HBV.out.trans (hbV.mono HBV.out.size))
    clear hb hbV v1 v32
    cases b with
    | false =>
     have hfin : Hid (R = 3) := by show R = 3; rw [HR4.out, if_pos ⟨by decide, of_decide_eq_false HB.out.symm⟩]
     clear HR4
     repeat (refine wpT_step rfl rfl (fun K hK => ?_); go_simp; refine hK _ ?_; clear hK K)
     refine wpT_end ?_
     intro w' hw'
     rw [show w' = w3 from hw']
     clear hw' w' k0 hne
     simp only [List.drop_succ_cons, List.drop_zero]
     go_wp2_with fail
     rw [hfin.out]
     go_ret
     exact ⟨rfl, HBZ.out⟩
    | true =>
     have hr5 := HR4.out
     rw [if_neg (fun h => h.2 (of_decide_eq_true HB.out.symm))] at hr5
     have HR5 := hidden hr5
     clear HR4 hr5
     repeat (refine wpT_step rfl rfl (fun K hK => ?_); go_simp; refine hK _ ?_; clear hK K)
     refine wpT_end ?_
     intro w' hw'
     rw [show w' = w3 from hw']
     clear hw' w' k0 hne
     simp only [List.drop_succ_cons, List.drop_zero]
     by_cases h3 : 32 < (d : Int) + n2
     ·have hdt3 : decide (32 < (d : Int) + n2) = true := decide_eq_true h3
      have hfin : Hid (R = 2) := by show R = 2; rw [HR5.out, if_pos h3]
      clear HR5
      go_wp2_with fail
      go_quiet (fail)
      go_wp2_with fail
      rw [hfin.out]
      go_ret
      exact ⟨rfl, HBZ.out.trans ⟨rfl, rfl, rfl, Nat.le_refl _, fun _ _ => rfl⟩⟩
     ·have hdt3 : decide (32 < (d : Int) + n2) = false := decide_eq_false h3
      have hfin : Hid (R = 4) := by show R = 4; rw [HR5.out, if_neg h3]
      clear HR5
      go_wp2_with fail
      go_quiet (fail)
      go_wp2_with fail
      rw [hfin.out]
      go_ret
      exact ⟨rfl, HBZ.out.trans ⟨rfl, rfl, rfl, Nat.le_refl _, fun _ _ => rfl⟩⟩
   ·have hne1 : 2 ≤ n1 := by rw [HN1.out]; decide
    obtain ⟨a, s, hs⟩ : ∃ a s, m.stk = a :: s := by
     cases hq : m.stk with
     | nil => have := HD.out; rw [hq] at this; simp at this; omega
     | cons a s => exact ⟨a, s, rfl⟩
    have hr4 := HR3.out
    rw [hs] at hr4
    simp only [List.headD_cons] at hr4
    have HR4 := hidden hr4; have HS := hidden hs
    have g1 : (((24 : Nat) : Int) == 23) = false := by decide
    have g2 : (((24 : Nat) : Int) == 24) = true := by decide
    have hD := HAV.out.at_.below (Below.drew (Below.refl V.heap.size V))
    have k0 : ∀ u' : {w' : World // w'.cell? ⟨x.mb, 35, none⟩ = some (.pointer (some ⟨x.wp, 0, none⟩))}, u'.val.cell? ⟨x.mb, 35, none⟩ = some (.pointer (some ⟨x.wp, 0, none⟩)) := fun u' => u'.property
    have hne : Nonempty {w' : World // w'.cell? ⟨x.mb, 35, none⟩ = some (.pointer (some ⟨x.wp, 0, none⟩))} := ⟨⟨V, HAV.out.at_.c35⟩⟩
    have HDD := hidden hD; have HC := hidden hD.at_.c35
    clear hr4 HR3 hs hD
    go_upto_region 4 with fail
    refine wp_region_turns (C := OneOf fun w' => w'.cell? ⟨x.mb, 35, none⟩ = some (.pointer (some ⟨x.wp, 0, none⟩))) 18 [14, 15] ⟨V.drew, HC.out⟩ (by kernel_rfl) (by kernel_rfl) rfl ?_
    rw [show List.range 18 = [0, 1, 2, 3, 4, 5, 6, 7, 8, 9, 10, 11, 12, 13, 14, 15, 16, 17] from rfl]
    repeat (refine wpT_step rfl rfl (fun K hK => ?_); go_simp; refine hK _ ?_; clear hK K)
    refine wpT_call1 rfl rfl 139 #[.pointer (some ⟨x.mb, 0, none⟩)] (by go_simp) ((HDD.out.at_.top HS.out).mono ?_)
    rintro e w2 ⟨rfl, hb2⟩
    have hn2 := HDD.out.at_.below hb2
    refine ⟨_, rfl, hn2.at_.c35, ?_⟩
    refine wpT_call1 rfl rfl 138 #[.pointer (some ⟨x.wp, 0, none⟩), .int .i64 a] (by go_simp) ((hn2.at_.has a).mono ?_)
    rintro e w3 ⟨rfl, rfl⟩
    refine ⟨_, rfl, hn2.at_.c35, ?_⟩
    obtain ⟨b, hb⟩ : ∃ b, b = decide (0 ≤ a ∧ a < (u.vars.length : Int)) := ⟨_, rfl⟩
    rw [← hb]
    have HB := hidden hb
    have hbV : Below V.heap.size V w3 := (Below.drew (Below.refl V.heap.size V)).trans hb2
    have z1 : w3.cell? ⟨eb, 1, none⟩ = some (.int .i64 n2) := (hbV.cell (p := ⟨eb, 1, none⟩) hebV).trans v1
    have z32 : w3.cell? ⟨x.mb, 32, none⟩ = some (.int .i64 d) := (hbV.cell (p := ⟨x.mb, 32, none⟩) hmV).trans v32
    have HBZ := hidden (HBV.out.trans (hbV.mono HBV.out.size))
    clear hb hbV v1 v32
    cases b with
    | false =>
     have hfin : Hid (R = 3) := by show R = 3; rw [HR4.out, if_pos ⟨by decide, of_decide_eq_false HB.out.symm⟩]
     clear HR4
     repeat (refine wpT_step rfl rfl (fun K hK => ?_); go_simp; refine hK _ ?_; clear hK K)
     refine wpT_end ?_
     intro w' hw'
     rw [show w' = w3 from hw']
     clear hw' w' k0 hne
     simp only [List.drop_succ_cons, List.drop_zero]
     go_wp2_with fail
     rw [hfin.out]
     go_ret
     exact ⟨rfl, HBZ.out⟩
    | true =>
     have hr5 := HR4.out
     rw [if_neg (fun h => h.2 (of_decide_eq_true HB.out.symm))] at hr5
     have HR5 := hidden hr5
     clear HR4 hr5
     repeat (refine wpT_step rfl rfl (fun K hK => ?_); go_simp; refine hK _ ?_; clear hK K)
     refine wpT_end ?_
     intro w' hw'
     rw [show w' = w3 from hw']
     clear hw' w' k0 hne
     simp only [List.drop_succ_cons, List.drop_zero]
     by_cases h3 : 32 < (d : Int) + n2
     ·have hdt3 : decide (32 < (d : Int) + n2) = true := decide_eq_true h3
      have hfin : Hid (R = 2) := by show R = 2; rw [HR5.out, if_pos h3]
      clear HR5
      go_wp2_with fail
      go_quiet (fail)
      go_wp2_with fail
      rw [hfin.out]
      go_ret
      exact ⟨rfl, HBZ.out.trans ⟨rfl, rfl, rfl, Nat.le_refl _, fun _ _ => rfl⟩⟩
     ·have hdt3 : decide (32 < (d : Int) + n2) = false := decide_eq_false h3
      have hfin : Hid (R = 4) := by show R = 4; rw [HR5.out, if_neg h3]
      clear HR5
      go_wp2_with fail
      go_quiet (fail)
      go_wp2_with fail
      rw [hfin.out]
      go_ret
      exact ⟨rfl, HBZ.out.trans ⟨rfl, rfl, rfl, Nat.le_refl _, fun _ _ => rfl⟩⟩
  ·have g1 : ((k : Int) == 23) = false := by simp; omega
   have g2 : ((k : Int) == 24) = false := by simp; omega
   have hr4 := HR3.out
   rw [if_neg (fun h => h2 h.1)] at hr4
   have HR4 := hidden hr4
   clear hr4 HR3
   go_wp2_with fail
   go_quiet (fail)
   have hbq : Below V.heap.size V (V.drewN nq) := ⟨rfl, rfl, rfl, Nat.le_refl _, fun _ _ => rfl⟩
   obtain ⟨Z, hZ⟩ : ∃ Z : World, Z = V.drewN nq := ⟨_, rfl⟩
   rw [← hZ] at hbq
   rw [← hZ]
   have z1 : Z.cell? ⟨eb, 1, none⟩ = some (.int .i64 n2) := (hbq.cell (p := ⟨eb, 1, none⟩) hebV).trans v1
   have z32 : Z.cell? ⟨x.mb, 32, none⟩ = some (.int .i64 d) := (hbq.cell (p := ⟨x.mb, 32, none⟩) hmV).trans v32
   have HBZ := hidden (HBV.out.trans (hbq.mono HBV.out.size))
   clear hZ hbq v1 v32
   by_cases h3 : 32 < (d : Int) + n2
   ·have hdt3 : decide (32 < (d : Int) + n2) = true := decide_eq_true h3
    have hfin : Hid (R = 2) := by show R = 2; rw [HR4.out, if_pos h3]
    clear HR4
    go_wp2_with fail
    go_quiet (fail)
    go_wp2_with fail
    rw [hfin.out]
    go_ret
    exact ⟨rfl, HBZ.out.trans ⟨rfl, rfl, rfl, Nat.le_refl _, fun _ _ => rfl⟩⟩
   ·have hdt3 : decide (32 < (d : Int) + n2) = false := decide_eq_false h3
    have hfin : Hid (R = 4) := by show R = 4; rw [HR4.out, if_neg h3]
    clear HR4
    go_wp2_with fail
    go_quiet (fail)
    go_wp2_with fail
    rw [hfin.out]
    go_ret
    exact ⟨rfl, HBZ.out.trans ⟨rfl, rfl, rfl, Nat.le_refl _, fun _ _ => rfl⟩⟩
end
end Go.Proofs.YtcphhbofjkenaaaGreatDoor
