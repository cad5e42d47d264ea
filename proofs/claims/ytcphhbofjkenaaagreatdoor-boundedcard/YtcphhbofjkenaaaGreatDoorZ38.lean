import Derived.Test.YtcphhbofjkenaaaGreatDoorK21
import Derived.Test.YtcphhbofjkenaaaGreatDoorK35
import Derived.Test.YtcphhbofjkenaaaGreatDoorZ36
import Derived.Test.YtcphhbofjkenaaaGreatDoorZ32
import Derived.Test.YtcphhbofjkenaaaGreatDoorZ35

namespace Go.Proofs.YtcphhbofjkenaaaGreatDoor
open Go Go.RowKit
set_option linter.unusedVariables false
set_option linter.unusedSimpArgs false
attribute [local go_sem] quietG

structure BCtx (w0 w : World) (bb : Nat) (R : List PE × Int × Int × List Int) (ws : List RW) (fb : Nat) (fc : Array Value) (va : Option Addr) (vc : Nat) (xs : List Int) (ya : Option Addr) (yc : Nat) (ys : List Int) : Prop where
  sys : KSys w bb R ws
  inf : Blk w fb fc 36
  stk : ∀ k, k ≤ xs.length → InsAt w.heap.size w (.slice va k vc) (xs.take k)
  ins : InsAt w.heap.size w (.slice ya ys.length yc) ys
  bel : Below w0.heap.size w0 w
theorem BCtx.below {w0 w w' : World} {bb : Nat} {R : List PE × Int × Int × List Int} {ws : List RW} {fb : Nat} {fc : Array Value} {va : Option Addr} {vc : Nat} {xs : List Int} {ya : Option Addr} {yc : Nat} {ys : List Int} (h : BCtx w0 w bb R ws fb fc va vc xs ya yc ys) (hb : Below w.heap.size w w') : BCtx w0 w' bb R ws fb fc va vc xs ya yc ys :=
  ⟨h.sys.below hb, h.inf.sub hb h.inf.lt, fun k hk => ((h.stk k hk).below hb).mono hb.size, (h.ins.below hb).mono hb.size, h.bel.trans (hb.mono h.bel.size)⟩
theorem lay_out (w : World) (cs : Array Value) : ∃ (ob : Nat) (Y : World), ob = w.heap.size ∧ Y = w.alloc (.cells cs 43 (0, 0)) ∧ Blk Y ob cs 43 ∧ Below w.heap.size w Y :=
  ⟨_, _, rfl, rfl, blk_new w _ _, (Below.refl _ _).alloc (Nat.le_refl _) _⟩

set_option maxRecDepth 100000 in
set_option maxHeartbeats 32000000 in
theorem keep_bounded {B : Nat} (w : World) (ht : Tab w) (a1 a2 a3 : Option Addr) (n1 c1 n2 c2 n3 c3 : Nat) (l1 l2 l3 : List Int) (z : Int) (h1 : InsAt B w (.slice a1 n1 c1) l1) (h2 : InsAt B w (.slice a2 n2 c2) l2) (h3 : InsAt B w (.slice a3 n3 c3) l3) (i1 : ∀ x ∈ l1, I64 x) (i2 : ∀ x ∈ l2, I64 x) (i3 : ∀ x ∈ l3, I64 x) (iz : I64 z) (hB : B ≤ w.heap.size) (e1 : l1.length ≤ 17592186043904) (e2 : l2.length ≤ 17592186043904) (e3 : l3.length ≤ 17592186043904) :
    Calls Tryz.prog 5 #[.slice a1 n1 c1, .slice a2 n2 c2, .slice a3 n3 c3, .int .i64 z] w fun e w' => e = .returned (.bool true) ∧ Below w.heap.size w w' := by
  have HT := hidden ht
  have HM := hidden (mk_made w a1 n1 c1 l1 false h1 i1 hB e1)
  have H2 := hidden (And.intro h2 i2); have H3 := hidden (And.intro h3 i3)
  have HZ := hidden iz
  clear ht h1 i1 h2 i2 h3 i3 iz
  go_enter Tryz.func5, Tryz.ntmps5
  go_wp2_with fail
  refine HM.out.mono ?_
  rintro e w1 ⟨mb, i, s, k, v, rfl, hmb, k1, k4, hsz, _, _, hbl, hb1⟩
  have HL := hidden (keep_loaded w1 mb hbl (HT.out.below hb1) hsz)
  have HBL := hidden hbl; have HB1 := hidden hb1
  clear hbl hb1 HM
  go_wp2_with fail
  refine HL.out.mono ?_
  rintro e w2 ⟨bb, ws, rfl, hbb, hK, hb2⟩
  obtain ⟨R, hR⟩ : ∃ R, R = (loadR s [] 0 0 []).2 := ⟨_, rfl⟩
  rw [← hR] at hK
  generalize ((loadR s [] 0 0 []).1.1 == 0) = okb
  have hbl2 := HBL.out.sub hb2 HBL.out.lt
  have ck : w2.cell? ⟨mb, 3, none⟩ = some (.int .i64 k) := hbl2.cell 3 _ rfl
  have hmb2 := hbl2.lt
  have HB2 := hidden (HB1.out.trans (hb2.mono HB1.out.size)); have HK := hidden hK
  have HP := hidden (fun w' => keep_pick z k HZ.out k1 (by omega) w')
  clear hb2 hK HL HB1 HBL hbl2 hR
  go_wp2_with fail
  refine (HP.out _).mono ?_
  rintro e w3 ⟨r, rfl, r0, r1, rfl⟩
  clear HP
  go_wp2_with fail
  refine (keep_digits r r0 (by omega) _).mono ?_
  rintro e w4 ⟨d, rfl, _, hb4⟩
  have HB4 := hidden (HB2.out.trans (hb4.mono HB2.out.size))
  have HK4 := hidden (HK.out.below hb4)
  clear hb4 HB2 HK ck
  go_wp2_with fail
  generalize (⟨#[119]⟩ ++ d : ByteArray) = x
  have hfi : Calls Tryz.prog 18 #[.pointer (some ⟨bb, 0, none⟩), .string x] w4 fun e w' => e = .returned (.tuple #[(findI ws x).1.val, .int .i64 (findI ws x).2]) ∧ Below w4.heap.size w4 w' := by
    obtain ⟨ev, cv, hsys⟩ := HK4.out.sys
    have := forth_find x hsys (by have := HK4.out.inv.l; omega)
    rw [find_eq HK4.out.alk.toAlike] at this
    exact this
  refine hfi.mono ?_
  rintro e w5 ⟨rfl, hb5⟩
  clear hfi
  have HB5 := hidden (HB4.out.trans (hb5.mono HB4.out.size))
  have HK5 := hidden (HK4.out.below hb5)
  have hfound := found HK4.out.alk HK4.out.inv HK4.out.wsb x
  clear hb5 HB4 HK4
  rcases hfound with h3 | ⟨h0, kk, y, l, f1, f2, f3, f4, f5, f6, f7, f8⟩
  · rw [h3]
    obtain ⟨⟨j1, j2, j3, j4, j5⟩, hI⟩ : ∃ I, I = (findI ws x).1 := ⟨_, rfl⟩
    rw [← hI]
    simp only [Inf.val]
    have HI := hidden hI; have HH3 := hidden h3
    clear hI h3
    go_wp2_with fail
    go_ret
    exact ⟨rfl, HB5.out.alloc HB5.out.size _⟩
  · rw [h0, f3]
    obtain ⟨nd, net, hi, sp, str, hy⟩ : ∃ (nd net hi sp : Int) (str : Bool), y.inf = ⟨nd, net, hi, sp, str⟩ := ⟨_, _, _, _, _, rfl⟩
    have HF := hidden (And.intro f1 (And.intro f2 (And.intro f4 (And.intro hy h0))))
    rw [hy] at f5 f6 f7 f8 ⊢
    have q1 : 0 ≤ nd := f5.n
    have q2 : 0 ≤ nd + net := f5.m
    have q3 : 0 ≤ hi := f5.h
    have q4 : net ≤ hi := f5.k
    have q5 : nd ≤ 4000000000 := by have := f6.n1; simpa using this
    have q6 : hi ≤ 4000000000 := by have := f6.h1; simpa using this
    have q7 : 1 ≤ sp := f7
    have q8 : sp ≤ 1000000000 := f8
    simp only [Inf.val]
    clear f1 f2 f3 f4 f5 f6 f7 f8 hy h0
    obtain ⟨fb, hfb⟩ : ∃ fb, fb = w5.heap.size := ⟨_, rfl⟩
    obtain ⟨Y, hY⟩ : ∃ Y : World, Y = w5.alloc (.cells #[.int .i64 nd, .int .i64 net, .int .i64 hi, .int .i64 sp, .bool str] 36 (0, 0)) := ⟨_, rfl⟩
    have hbY : Below w5.heap.size w5 Y := by rw [hY]; exact (Below.refl _ _).alloc (Nat.le_refl _) _
    have hkY : Blk Y fb #[.int .i64 nd, .int .i64 net, .int .i64 hi, .int .i64 sp, .bool str] 36 := by rw [hY, hfb]; exact blk_new w5 _ _
    have HY := hidden hY; have HFB := hidden hfb; have HKY := hidden hkY
    have HKS := hidden (HK5.out.below hbY)
    have HBY := hidden (HB5.out.trans (hbY.mono HB5.out.size))
    have g0 : Y.cell? ⟨fb, 0, none⟩ = some (.int .i64 nd) := hkY.cell 0 _ rfl
    have g1 : Y.cell? ⟨fb, 1, none⟩ = some (.int .i64 net) := hkY.cell 1 _ rfl
    have g2 : Y.cell? ⟨fb, 2, none⟩ = some (.int .i64 hi) := hkY.cell 2 _ rfl
    have g3 : Y.cell? ⟨fb, 3, none⟩ = some (.int .i64 sp) := hkY.cell 3 _ rfl
    have hfl := hkY.lt
    clear hfb hY hbY hkY HK5 HB5
    go_upto_region 9 with fail
    rw [← HY.out, ← HFB.out]
    by_cases hbig : 1000000 < sp
    · go_wp2_with fail
      go_ret
      exact ⟨rfl, HBY.out⟩
    by_cases hdeep : 32 < nd + hi
    · go_wp2_with fail
      go_ret
      exact ⟨rfl, HBY.out⟩
    have HST := hidden (keep_start Y a2 n2 c2 l2 nd (32 - hi) (H2.out.1.below (HBY.out.mono hB)) H2.out.2 (Nat.le_trans hB HBY.out.size) e2 q1 (by omega) (by omega))
    go_wp2_with fail
    refine HST.out.mono ?_
    rintro e w6 ⟨va, vc, xs, rfl, x1, x2, x3, x4, x5, x6, hb6⟩
    have HX3 := hidden x3; have HX4 := hidden x4; have HX2 := hidden x2
    have HB6 := hidden (HBY.out.trans (hb6.mono HBY.out.size)); have HK6 := hidden (HKS.out.below hb6); have HKY6 := hidden (HKY.out.sub hb6 HKY.out.lt)
    obtain ⟨m, hm⟩ : ∃ m, m = xs.length := ⟨_, rfl⟩
    rw [← hm] at x1 x5 x6 HX2 ⊢
    have HM := hidden hm
    have HCE := hidden (keep_cells w6 a3 n3 c3 l3 (H3.out.1.below (HB6.out.mono hB)) H3.out.2 (Nat.le_trans hB HB6.out.size) e3)
    clear hb6 x2 x3 x4 HBY HKS HKY HST g0 g1 g2 g3 hm hfl
    go_wp2_with fail
    refine HCE.out.mono ?_
    rintro e w7 ⟨qv, ys, rfl, hc7, hyl⟩
    obtain ⟨ya, yc, hyv, _, _⟩ := row_shape hc7.row
    subst hyv
    have hq7 : InsAt w7.heap.size w7 (.slice ya ys.length yc) ys := by
      have := insAt_take hc7.row (Nat.le_refl _) ys.length (Nat.le_refl _)
      rw [List.take_length] at this
      exact this
    have HC7 : Hid (BCtx w w7 bb R ws fb _ va vc xs ya yc ys) := hidden ⟨HK6.out.below hc7.bel, HKY6.out.sub hc7.bel HKY6.out.lt, fun k hk => ((HX3.out k hk).below hc7.bel).mono hc7.bel.size, hq7, HB6.out.trans (hc7.bel.mono HB6.out.size)⟩
    have HYS := hidden hc7.cel
    have HYL := hidden (show ys.length ≤ 17592186043904 by omega)
    have hmay : ∀ f : Int, 0 ≤ f → f ≤ 1000000 → mayR xs ys f = true := fun f f0 f1 => mayR_of (by have := HM.out; omega) HX4.out hc7.cel f0 f1
    obtain ⟨f1, f2, f4, hy, h0⟩ := HF.out
    obtain ⟨n, ee, S', u', b1, b2, b3, b4, b5, b6⟩ := bounded_run f1 f2 f4 R.2.1.toNat (st := xs) (ins := ys) HX4.out hc7.cel (by rw [hy]; exact q3) (by rw [hy]; have := HM.out; simp only; omega) (by rw [hy]; have := HM.out; simp only; omega) (by rw [hy]; simp only; omega)
    rw [hy] at b2 b3
    simp only at b2 b3
    rw [← HM.out] at b3
    have HMAY := hidden hmay
    obtain ⟨_, _, _, _, _, r1, r2, r3⟩ := runD_runM HC7.out.sys.alk h0 (hmay 1000000 (by omega) (by omega)) R.2.1.toNat
    have hR1 := keep_run HC7.out.sys x 1000000 (HC7.out.stk xs.length (Nat.le_refl _)) hq7 h0 (by rw [List.take_length]; exact hmay 1000000 (by omega) (by omega)) (by omega)
    rw [List.take_length, b4 (1000000 : Int).toNat (by omega)] at hR1
    rw [b4 (1000000 : Int).toNat (by omega)] at r1 r2 r3
    simp only at r1 r2 r3 hR1
    obtain ⟨N, hN⟩ : ∃ N : Int, N = ((n + 1 : Nat) : Int) := ⟨_, rfl⟩
    rw [← hN, ← HM.out] at hR1
    have hN1 : 1 ≤ N := by omega
    have hNs : N ≤ sp := by omega
    have HLEN := hidden (And.intro r1 (And.intro r2 r3))
    have HR1 := hidden hR1; have HB4 := hidden b4; have HB56 := hidden (And.intro b5 b6); have HB3 := hidden b3; have HNN := hidden hN
    clear hc7 hq7 hR1 b4 b5 b6 b3 r1 r2 r3 hmay f1 f2 f4 hy h0 HK6 HKY6 HX3 HB6 HCE hN b2 hyl
    go_wp2_with fail
    refine HR1.out.mono ?_
    rintro e w8 ⟨xa, oa, va1, xn, xc, on, oc, vn, vc1, rfl, ho, hxn, hb8⟩
    obtain ⟨ob, Y8, hob, hY8, hk8, hbY8⟩ := lay_out w8 #[.slice xa xn xc, .slice oa on oc, .slice va1 vn vc1, .int .i64 N, .int .i64 ee]
    have hb78 := hb8.trans (hbY8.mono hb8.size)
    have HC8 := hidden (HC7.out.below hb78)
    have HO8 := hidden (ho.below hbY8)
    have HXN := hidden hxn
    have HOB := hidden hob; have HY8 := hidden hY8; have HK8 := hidden hk8
    have g0 : Y8.cell? ⟨fb, 0, none⟩ = some (.int .i64 nd) := HC8.out.inf.cell 0 _ rfl
    have g1 : Y8.cell? ⟨fb, 1, none⟩ = some (.int .i64 net) := HC8.out.inf.cell 1 _ rfl
    have g3 : Y8.cell? ⟨fb, 3, none⟩ = some (.int .i64 sp) := HC8.out.inf.cell 3 _ rfl
    have g4 : Y8.cell? ⟨fb, 4, none⟩ = some (.bool str) := HC8.out.inf.cell 4 _ rfl
    have o0 : Y8.cell? ⟨ob, 0, none⟩ = some (.slice xa xn xc) := hk8.cell 0 _ rfl
    have o3 : Y8.cell? ⟨ob, 3, none⟩ = some (.int .i64 N) := hk8.cell 3 _ rfl
    have o4 : Y8.cell? ⟨ob, 4, none⟩ = some (.int .i64 ee) := hk8.cell 4 _ rfl
    have hfl := HC8.out.inf.lt
    have hol := hk8.lt
    have hxl : ee = 0 → (xn : Int) = (m : Int) + net := fun h => by rw [hxn]; exact (HB3.out h).1
    have hst : ee = 0 → str = true → N = sp := fun h h2 => by have := (HB3.out h).2 h2; have := HNN.out; omega
    clear ho hxn hb8 hob hY8 hk8 hbY8 hb78 HR1 HC7
    go_upto_region 16 with fail
    rw [← HY8.out, ← HOB.out]
    have hcs : (str = true ∧ ee = 0 ∧ (ee != 0) = false ∧ (ee == 0) = true ∧ ((xn : Int) != (m : Int) + net) = false ∧ (N != sp) = false) ∨ (str = true ∧ (ee != 0) = true ∧ (ee != 3) = false ∧ (ee == 0) = false) ∨ (str = false ∧ ee = 0 ∧ (ee != 0) = false ∧ (ee == 0) = true ∧ ((xn : Int) != (m : Int) + net) = false) ∨ (str = false ∧ (ee != 0) = true ∧ (ee != 3) = false ∧ (ee == 0) = false) := by
      rcases b1 with h | h
      · have h1 := hxl h
        cases hs : str
        · exact Or.inr (Or.inr (Or.inl ⟨rfl, h, by simp [h], by simp [h], by simp [h1]⟩))
        · exact Or.inl ⟨rfl, h, by simp [h], by simp [h], by simp [h1], by simp [hst h hs]⟩
      · cases hs : str
        · exact Or.inr (Or.inr (Or.inr ⟨rfl, by rw [h]; decide, by rw [h]; decide, by rw [h]; decide⟩))
        · exact Or.inr (Or.inl ⟨rfl, by rw [h]; decide, by rw [h]; decide, by rw [h]; decide⟩)
    clear b1 hxl hst
    rcases hcs with ⟨hstr, hee, t1, t2, t3, t4⟩ | ⟨hstr, t1, t2, t3⟩ | ⟨hstr, hee, t1, t2, t3⟩ | ⟨hstr, t1, t2, t3⟩
    case' inl => clear hee
    case' inr.inr.inl => clear hee
    all_goals
      go_upto_region 20 with fail
      have hRp := keep_run HC8.out.sys x N (HC8.out.stk xs.length (Nat.le_refl _)) HC8.out.ins HF.out.2.2.2.2 (by rw [List.take_length]; exact HMAY.out N (by omega) (by omega)) HYL.out
      rw [List.take_length, HB4.out N.toNat (by have := HNN.out; omega)] at hRp
      simp only at hRp
      rw [← HNN.out, ← HM.out] at hRp
      have HRp := hidden hRp
      clear hRp g0 g1 g3 g4 o0 o4 t1 t2 t3
      go_wp2_with fail
      refine HRp.out.mono ?_
      rintro e w9 ⟨xa', oa', va', xn', xc', on', oc', vn', vc', rfl, ho9, hxn9, hb9⟩
      clear hxn9
      obtain ⟨pb, Y9, hpb, hY9, hk9, hbY9⟩ := lay_out w9 #[.slice xa' xn' xc', .slice oa' on' oc', .slice va' vn' vc', .int .i64 N, .int .i64 ee]
      have hb89 := hb9.trans (hbY9.mono hb9.size)
      have HC9 := hidden (HC8.out.below hb89)
      have HO89 := hidden (HO8.out.below hb89)
      have HO9 := hidden (ho9.below hbY9)
      have HK89 := hidden (HK8.out.sub hb89 HK8.out.lt)
      have HK9 := hidden hk9; have HPB := hidden hpb; have HY9 := hidden hY9
      have o3' : Y9.cell? ⟨ob, 3, none⟩ = some (.int .i64 N) := HK89.out.cell 3 _ rfl
      have hol9 := HK89.out.lt
      clear ho9 hb9 hpb hY9 hk9 hbY9 hb89 HRp HC8 HO8 HK8 o3 hfl hol
      go_upto_region 21 with fail
      rw [← HY9.out, ← HPB.out]
      obtain ⟨M, hM⟩ : ∃ M : Int, M = (n : Int) := ⟨_, rfl⟩
      have hmn : (M != N - 1) = false := by
        have := HNN.out
        have e : M = N - 1 := by omega
        simp [e]
      have hRr := keep_run HC9.out.sys x (N - 1) (HC9.out.stk xs.length (Nat.le_refl _)) HC9.out.ins HF.out.2.2.2.2 (by rw [List.take_length]; exact HMAY.out (N - 1) (by omega) (by omega)) HYL.out
      rw [List.take_length, show (N - 1).toNat = n by have := HNN.out; omega, HB56.out.1, HB56.out.2, ← hM, ← HM.out] at hRr
      have HRr := hidden hRr
      clear hRr hM
      go_wp2_with fail
      refine HRr.out.mono ?_
      rintro e w10 ⟨xa2, oa2, va2, xn2, xc2, on2, oc2, vn2, vc2, rfl, ho10, hxn10, hb10⟩
      clear ho10 hxn10
      obtain ⟨rb, Y10, hrb, hY10, hk10, hbY10⟩ := lay_out w10 #[.slice xa2 xn2 xc2, .slice oa2 on2 oc2, .slice va2 vn2 vc2, .int .i64 M, .int .i64 4]
      have hb90 := hb10.trans (hbY10.mono hb10.size)
      have HC10 := hidden (HC9.out.below hb90)
      have HO10 := hidden (HO89.out.below hb90)
      have HP10 := hidden (HO9.out.below hb90)
      have HK810 := hidden (HK89.out.sub hb90 HK89.out.lt)
      have HK910 := hidden (HK9.out.sub hb90 HK9.out.lt)
      have HK10 := hidden hk10; have HRB := hidden hrb; have HY10 := hidden hY10
      have o0 : Y10.cell? ⟨ob, 0, none⟩ = some (.slice xa xn xc) := HK810.out.cell 0 _ rfl
      have o1 : Y10.cell? ⟨ob, 1, none⟩ = some (.slice oa on oc) := HK810.out.cell 1 _ rfl
      have o2 : Y10.cell? ⟨ob, 2, none⟩ = some (.slice va1 vn vc1) := HK810.out.cell 2 _ rfl
      have o3 : Y10.cell? ⟨ob, 3, none⟩ = some (.int .i64 N) := HK810.out.cell 3 _ rfl
      have o4 : Y10.cell? ⟨ob, 4, none⟩ = some (.int .i64 ee) := HK810.out.cell 4 _ rfl
      have p0 : Y10.cell? ⟨pb, 0, none⟩ = some (.slice xa' xn' xc') := HK910.out.cell 0 _ rfl
      have p1 : Y10.cell? ⟨pb, 1, none⟩ = some (.slice oa' on' oc') := HK910.out.cell 1 _ rfl
      have p2 : Y10.cell? ⟨pb, 2, none⟩ = some (.slice va' vn' vc') := HK910.out.cell 2 _ rfl
      have p3 : Y10.cell? ⟨pb, 3, none⟩ = some (.int .i64 N) := HK910.out.cell 3 _ rfl
      have p4 : Y10.cell? ⟨pb, 4, none⟩ = some (.int .i64 ee) := HK910.out.cell 4 _ rfl
      have hol10 := HK810.out.lt
      have hpl10 := HK910.out.lt
      have HAL := hidden (keep_alike N ee HO10.out HP10.out (by rw [List.length_reverse]; exact Nat.le_trans HLEN.out.1 (by omega)) (Nat.le_trans HLEN.out.2.1 (by omega)) (by have := HLEN.out.2.2; have := HC10.out.sys.inv.v1; have := HC10.out.sys.inv.v0; omega))
      clear hb10 hrb hY10 hk10 hbY10 hb90 HRr HC9 HO89 HO9 HK89 HK9 o3' hol9
      go_upto_region 22 with fail
      rw [← HY10.out, ← HRB.out]
      go_wp2_with fail
      refine HAL.out.mono ?_
      rintro e w11 ⟨rfl, hb11⟩
      have HC11 := hidden (HC10.out.below hb11)
      have HK811 := hidden (HK810.out.sub hb11 HK810.out.lt)
      have HK1011 := hidden (HK10.out.sub hb11 HK10.out.lt)
      have s3 : w11.cell? ⟨ob, 3, none⟩ = some (.int .i64 N) := HK811.out.cell 3 _ rfl
      have r3 : w11.cell? ⟨rb, 3, none⟩ = some (.int .i64 M) := HK1011.out.cell 3 _ rfl
      have r4 : w11.cell? ⟨rb, 4, none⟩ = some (.int .i64 4) := HK1011.out.cell 4 _ rfl
      have hol11 := HK811.out.lt
      have hrl11 := HK1011.out.lt
      clear hb11 HC10 HO10 HP10 HK810 HK910 HK10 HAL o0 o1 o2 o3 o4 p0 p1 p2 p3 p4 hol10 hpl10
      go_upto_region 25 with fail
      clear s3 r3 r4 hmn hol11 hrl11 HK811 HK1011
      have g0 : w11.cell? ⟨fb, 0, none⟩ = some (.int .i64 nd) := HC11.out.inf.cell 0 _ rfl
      have g4 : w11.cell? ⟨fb, 4, none⟩ = some (.bool str) := HC11.out.inf.cell 4 _ rfl
      have hfl := HC11.out.inf.lt
    · by_cases hnd : nd = 0
      · have hnd2 : (nd == 0) = true := by simpa using hnd
        clear hnd
        go_wp2_with fail
        go_ret
        exact ⟨rfl, HC11.out.bel⟩
      · have hnd2 : (nd == 0) = false := by simpa using hnd
        go_wp2_with fail
        go_ret
        exact ⟨rfl, HC11.out.bel⟩
    · by_cases hnd : nd = 0
      · have hnd2 : (nd == 0) = true := by simpa using hnd
        clear hnd
        go_wp2_with fail
        go_ret
        exact ⟨rfl, HC11.out.bel⟩
      · have hnd2 : (nd == 0) = false := by simpa using hnd
        obtain ⟨g, hg⟩ := HX2.out (by omega)
        subst hg
        obtain ⟨d1, hd1⟩ : ∃ d : Int, nd - 1 = d := ⟨_, rfl⟩
        have hk1 : d1 ≤ (vc : Int) := by omega
        have hk0 : 0 ≤ d1 := by omega
        have HMK := HM.out
        have htk : (xs.take d1.toNat).length = d1.toNat := by rw [List.length_take]; omega
        have hct : ∀ y ∈ xs.take d1.toNat, Cell y := fun y hy => HX4.out y (List.mem_of_mem_take hy)
        have hRu := keep_run HC11.out.sys x 1000000 (HC11.out.stk d1.toNat (by omega)) HC11.out.ins HF.out.2.2.2.2 (mayR_of (by omega) hct HYS.out (by omega) (by omega)) HYL.out
        have hlk := bounded_lack HF.out.1 HF.out.2.1 HF.out.2.2.1 R.2.1.toNat (st := xs.take d1.toNat) (ins := ys) hct HYS.out (by rw [HF.out.2.2.2.1]; exact q3) (by rw [HF.out.2.2.2.1]; exact hstr) (by rw [HF.out.2.2.2.1]; simp only; omega) (by rw [HF.out.2.2.2.1]; simp only; omega) (by rw [HF.out.2.2.2.1]; simp only; omega)
        rw [show (1000000 : Int).toNat = 1000000 from rfl] at hRu
        generalize runD ws R.2.1.toNat x (xs.take d1.toNat) ys 1000000 = D at hRu hlk
        obtain ⟨D1, D2, D3, D4⟩ := D
        simp only at hRu hlk
        obtain ⟨D0, hD0⟩ : ∃ d : Int, d = (D1 : Int) := ⟨_, rfl⟩
        rw [← hD0] at hRu
        have HRu := hidden hRu
        have u1 : (D2 != 0) = true := by simp; omega
        have u2 : (D2 != 4) = true := by simp; omega
        clear hRu hlk htk hct hD0 HMK hnd
        go_wp2_with fail
        refine HRu.out.mono ?_
        rintro e w12 ⟨xa3, oa3, va3, xn3, xc3, on3, oc3, vn3, vc3, rfl, ho12, hxn12, hb12⟩
        clear ho12 hxn12
        obtain ⟨ub, Y12, hub, hY12, hk12, hbY12⟩ := lay_out w12 #[.slice xa3 xn3 xc3, .slice oa3 on3 oc3, .slice va3 vn3 vc3, .int .i64 D0, .int .i64 D2]
        have HC12 := hidden (HC11.out.below (hb12.trans (hbY12.mono hb12.size)))
        have HUB := hidden hub; have HY12 := hidden hY12
        have v4 : Y12.cell? ⟨ub, 4, none⟩ = some (.int .i64 D2) := hk12.cell 4 _ rfl
        have hul := hk12.lt
        clear hb12 hub hY12 hk12 hbY12 HRu HC11 g0 g4
        go_upto_region 28 with fail
        rw [← HY12.out, ← HUB.out]
        go_wp2_with fail
        go_ret
        exact ⟨rfl, HC12.out.bel⟩
    · by_cases hnd : nd = 0
      · have hnd2 : (nd == 0) = true := by simpa using hnd
        clear hnd
        go_wp2_with fail
        go_ret
        exact ⟨rfl, HC11.out.bel⟩
      · have hnd2 : (nd == 0) = false := by simpa using hnd
        obtain ⟨g, hg⟩ := HX2.out (by omega)
        subst hg
        obtain ⟨d1, hd1⟩ : ∃ d : Int, nd - 1 = d := ⟨_, rfl⟩
        have hk1 : d1 ≤ (vc : Int) := by omega
        have hk0 : 0 ≤ d1 := by omega
        have HMK := HM.out
        have htk : (xs.take d1.toNat).length = d1.toNat := by rw [List.length_take]; omega
        have hct : ∀ y ∈ xs.take d1.toNat, Cell y := fun y hy => HX4.out y (List.mem_of_mem_take hy)
        have hRu := keep_run HC11.out.sys x 1000000 (HC11.out.stk d1.toNat (by omega)) HC11.out.ins HF.out.2.2.2.2 (mayR_of (by omega) hct HYS.out (by omega) (by omega)) HYL.out
        have hlk := bounded_lack HF.out.1 HF.out.2.1 HF.out.2.2.1 R.2.1.toNat (st := xs.take d1.toNat) (ins := ys) hct HYS.out (by rw [HF.out.2.2.2.1]; exact q3) (by rw [HF.out.2.2.2.1]; exact hstr) (by rw [HF.out.2.2.2.1]; simp only; omega) (by rw [HF.out.2.2.2.1]; simp only; omega) (by rw [HF.out.2.2.2.1]; simp only; omega)
        rw [show (1000000 : Int).toNat = 1000000 from rfl] at hRu
        generalize runD ws R.2.1.toNat x (xs.take d1.toNat) ys 1000000 = D at hRu hlk
        obtain ⟨D1, D2, D3, D4⟩ := D
        simp only at hRu hlk
        obtain ⟨D0, hD0⟩ : ∃ d : Int, d = (D1 : Int) := ⟨_, rfl⟩
        rw [← hD0] at hRu
        have HRu := hidden hRu
        have u1 : (D2 != 0) = true := by simp; omega
        have u2 : (D2 != 4) = true := by simp; omega
        clear hRu hlk htk hct hD0 HMK hnd
        go_wp2_with fail
        refine HRu.out.mono ?_
        rintro e w12 ⟨xa3, oa3, va3, xn3, xc3, on3, oc3, vn3, vc3, rfl, ho12, hxn12, hb12⟩
        clear ho12 hxn12
        obtain ⟨ub, Y12, hub, hY12, hk12, hbY12⟩ := lay_out w12 #[.slice xa3 xn3 xc3, .slice oa3 on3 oc3, .slice va3 vn3 vc3, .int .i64 D0, .int .i64 D2]
        have HC12 := hidden (HC11.out.below (hb12.trans (hbY12.mono hb12.size)))
        have HUB := hidden hub; have HY12 := hidden hY12
        have v4 : Y12.cell? ⟨ub, 4, none⟩ = some (.int .i64 D2) := hk12.cell 4 _ rfl
        have hul := hk12.lt
        clear hb12 hub hY12 hk12 hbY12 HRu HC11 g0 g4
        go_upto_region 28 with fail
        rw [← HY12.out, ← HUB.out]
        go_wp2_with fail
        go_ret
        exact ⟨rfl, HC12.out.bel⟩
    · by_cases hnd : nd = 0
      · have hnd2 : (nd == 0) = true := by simpa using hnd
        clear hnd
        go_wp2_with fail
        go_ret
        exact ⟨rfl, HC11.out.bel⟩
      · have hnd2 : (nd == 0) = false := by simpa using hnd
        go_wp2_with fail
        go_ret
        exact ⟨rfl, HC11.out.bel⟩

end Go.Proofs.YtcphhbofjkenaaaGreatDoor
