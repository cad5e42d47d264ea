import Derived.Test.YtcphhbofjkenaaaGreatDoorM33
import Derived.Test.YtcphhbofjkenaaaGreatDoorM35
import Derived.Test.YtcphhbofjkenaaaGreatDoorM37
namespace Go.Proofs.YtcphhbofjkenaaaGreatDoor
open Go Go.RowKit
set_option linter.unusedVariables false
set_option linter.unusedSimpArgs false
attribute [local go_sem] quietG
end Go.Proofs.YtcphhbofjkenaaaGreatDoor
namespace Go.Proofs.YtcphhbofjkenaaaGreatDoor
open Go Go.RowKit
set_option linter.unusedVariables false
set_option linter.unusedSimpArgs false
attribute [local go_sem] quietG
structure LSys (lo : Nat) (w : World) (bb : Nat) (ev cv : Value) (R : List PE × Int × Int × List Int) : Prop where
  sys : PSys w bb ev cv R.1 R.2.1 R.2.2.1 R.2.2.2
  inv : LInv R.1 R.2.1 R.2.2.1 R.2.2.2
  tab : Tab w
  bas : lo ≤ bb
  rows : ∀ k, ev.ownBlock = some k → lo ≤ k
  cods : ∀ k, cv.ownBlock = some k → lo ≤ k
theorem LSys.below {lo : Nat} {w w' : World} {bb : Nat} {ev cv : Value} {R : List PE × Int × Int × List Int} (h : LSys lo w bb ev cv R) (hb : Below w.heap.size w w') : LSys lo w' bb ev cv R :=
  ⟨h.sys.below hb, h.inv, h.tab.below hb, h.bas, h.rows, h.cods⟩
def touch (bb : Nat) (ev cv : Value) (k : Nat) : Prop := k = bb ∨ ev.ownBlock = some k ∨ cv.ownBlock = some k
theorem LSys.touch_lo {lo : Nat} {w : World} {bb : Nat} {ev cv : Value} {R : List PE × Int × Int × List Int} (h : LSys lo w bb ev cv R) {k : Nat} (hk : touch bb ev cv k) : lo ≤ k := by
  rcases hk with rfl | e | e
  · exact h.bas
  · exact h.rows k e
  · exact h.cods k e
theorem LSys.load {lo : Nat} {w w' : World} {bb : Nat} {ev cv : Value} {R : List PE × Int × Int × List Int} {s : ByteArray} {e : Ending} (h : LSys lo w bb ev cv R) (hlo : lo ≤ w.heap.size) (hp : LoadPost w bb ev cv (loadR s R.1 R.2.1 R.2.2.1 R.2.2.2) e w') :
    e = .returned (.tuple #[.int .i64 (loadR s R.1 R.2.1 R.2.2.1 R.2.2.2).1.1, .int .i64 (loadR s R.1 R.2.1 R.2.2.1 R.2.2.2).1.2]) ∧ (∃ ev' cv', LSys lo w' bb ev' cv' (loadR s R.1 R.2.1 R.2.2.1 R.2.2.2).2 ∧ (∀ k, touch bb ev' cv' k → touch bb ev cv k ∨ w.heap.size ≤ k)) ∧ Chg (touch bb ev cv) w w' := by
  obtain ⟨h1, ⟨ev', cv', h2, h3, l1, l2⟩, h5, h6⟩ := hp
  refine ⟨h1, ⟨ev', cv', ⟨h2, h5, h3, h.bas, fun k hk => ?_, fun k hk => ?_⟩, fun k hk => ?_⟩, h6⟩
  · rcases l1 k hk with e | e
    · exact h.rows k e
    · omega
  · rcases l2 k hk with e | e
    · exact h.cods k e
    · omega
  · rcases hk with rfl | e | e
    · exact Or.inl (Or.inl rfl)
    · exact (l1 k e).imp (fun e => Or.inr (Or.inl e)) id
    · exact (l2 k e).imp (fun e => Or.inr (Or.inr e)) id
theorem LSys.chg {lo : Nat} {S : Nat → Prop} {w w' : World} {bb : Nat} {ev cv : Value} {R : List PE × Int × Int × List Int} (h : LSys lo w bb ev cv R) (hc : Chg S w w') (ht : Tab w') (hn : ∀ k, touch bb ev cv k → ¬ S k) : LSys lo w' bb ev cv R :=
  ⟨h.sys.chg hc (hn _ (Or.inl rfl)) (fun k hk => hn k (Or.inr (Or.inl hk))) (fun k hk => hn k (Or.inr (Or.inr hk))), h.inv, ht, h.bas, h.rows, h.cods⟩
theorem load_new2 {w w1 w2 : World} {bb : Nat} {s : ByteArray} {e : Ending} (h0 : w.heap.size ≤ bb) (hb : Below w.heap.size w w1) (hp : LoadPost w1 bb (.slice none 0 0) (.slice none 0 0) (loadR s [] 0 0 []) e w2) :
    e = .returned (.tuple #[.int .i64 (loadR s [] 0 0 []).1.1, .int .i64 (loadR s [] 0 0 []).1.2]) ∧ (∃ ev cv ws, LSys w.heap.size w2 bb ev cv (loadR s [] 0 0 []).2 ∧ Alk (loadR s [] 0 0 []).2.1 (loadR s [] 0 0 []).2.2.2.2 ws ∧ WsB ws) ∧ Below w.heap.size w w2 := by
  obtain ⟨h1, ⟨ev, cv, h2, h3, l1, l2⟩, h5, h6⟩ := hp
  obtain ⟨ws, a1, a2, _⟩ := load_ws s alk_nil LInv.zero wsOk_nil WsB.nil
  have hs := hb.size
  refine ⟨h1, ⟨ev, cv, ws, ⟨h2, h5, h3, h0, fun k hk => ?_, fun k hk => ?_⟩, a1, a2⟩, hb.trans (h6.toBelow hb.size fun b hbb e => ?_)⟩
  · rcases l1 k hk with e | e
    · simp [Value.ownBlock] at e
    · omega
  · rcases l2 k hk with e | e
    · simp [Value.ownBlock] at e
    · omega
  · rcases e with e | e | e
    · omega
    · simp [Value.ownBlock] at e
    · simp [Value.ownBlock] at e
def LoadedPost2 (w : World) (s : ByteArray) (e : Ending) (w' : World) : Prop := ∃ (bb : Nat) (ev cv : Value) (ws : List RW), e = .returned (.tuple #[.pointer (some ⟨bb, 0, none⟩), .bool ((loadR s [] 0 0 []).1.1 == 0)]) ∧ w.heap.size ≤ bb ∧ (LSys w.heap.size w' bb ev cv (loadR s [] 0 0 []).2 ∧ Alk (loadR s [] 0 0 []).2.1 (loadR s [] 0 0 []).2.2.2.2 ws ∧ WsB ws) ∧ Below w.heap.size w w'
set_option maxRecDepth 100000 in
set_option maxHeartbeats 4000000 in
theorem keep_loaded2 (w : World) (mb : Nat) {a : Option Addr} {nn c : Nat} {i : Int} {s : ByteArray} {k v : Int} {al : Bool} (hb : Blk w mb (mkC a nn c i s k v al) 34) (ht : Tab w) (hs : s.size ≤ 100000) :
    Calls Tryz.prog 15 #[.pointer (some ⟨mb, 0, none⟩)] w fun e w' => LoadedPost2 w s e w' := by
  have HT := hidden ht; have HB := hidden hb
  have HN := hidden (forth_new w ht)
  clear ht hb
  go_enter Tryz.func15, Tryz.ntmps15
  go_wp2_with fail
  refine HN.out.mono ?_
  rintro e w1 ⟨bb, hbb, rfl, hp, hb1⟩
  have HW := hidden (keep_works w1 (HT.out.below hb1))
  have HP := hidden hp; have HB1 := hidden hb1
  clear hp hb1 HN
  go_wp2_with fail
  refine HW.out.mono ?_
  rintro e w2 ⟨rfl, hb2⟩
  have hb12 := HB1.out.trans (hb2.mono HB1.out.size)
  have hbl := HB.out.sub hb12 HB.out.lt
  have c2 : w2.cell? ⟨mb, 2, none⟩ = some (.string s) := hbl.cell 2 _ rfl
  have hml := hbl.lt
  have HL := hidden (forth_load s (HP.out.below hb2) (HT.out.below hb12) (by omega) LInv.zero)
  have HB2 := hidden hb12
  clear hb2 hb12 hbl HW HP HB1
  go_wp2_with fail
  refine HL.out.mono ?_
  intro e w3 hpost
  obtain ⟨h1, ⟨ev, cv, ws, hK⟩, hb3⟩ := load_new2 hbb HB2.out hpost
  subst h1
  have HK := hidden hK; have HB3 := hidden hb3
  clear hpost hK hb3 HL HB2 c2
  obtain ⟨r1, hr1⟩ : ∃ r, r = (loadR s [] 0 0 []).1.1 := ⟨_, rfl⟩
  obtain ⟨r2, hr2⟩ : ∃ r, r = (loadR s [] 0 0 []).1.2 := ⟨_, rfl⟩
  rw [← hr1, ← hr2]
  have HR1 := hidden hr1
  clear hr1 hr2
  go_wp2_with fail
  exact bodyPost_ret (v := .tuple #[.pointer (some ⟨bb, 0, none⟩), .bool (r1 == 0)]) (by simp [results, Tryz.results15, go_sem]) rfl (show LoadedPost2 _ _ _ _ from ⟨bb, ev, cv, ws, by rw [HR1.out], hbb, HK.out, HB3.out⟩)
end Go.Proofs.YtcphhbofjkenaaaGreatDoor
namespace Go.Proofs.YtcphhbofjkenaaaGreatDoor
open Go Go.RowKit
set_option linter.unusedVariables false
set_option linter.unusedSimpArgs false
structure JR where
  wd : Int
  more : Int
  slack : Int
  off : Int
def JR.cells (j : JR) : List Value := [.int .i64 j.wd, .int .i64 j.more, .int .i64 j.slack, .int .i64 j.off]
def JR.Ok (j : JR) : Prop := I64 j.wd ∧ I64 j.more ∧ I64 j.slack ∧ I64 j.off
def JsAt (B : Nat) (w : World) (v : Value) (l : List JR) : Prop :=
  (l = [] ∧ ∃ a c, v = .slice a 0 c) ∨ ∃ pb po c, v = .slice (some ⟨pb, po, none⟩) l.length c ∧ l.length ≤ c ∧ pb < B ∧ ∀ (j : Nat) (u : Value), (l.flatMap JR.cells)[j]? = some u → w.cell? ⟨pb, po + j, none⟩ = some u
theorem JsAt.below {B : Nat} {w w' : World} {v : Value} {l : List JR} (h : JsAt B w v l) (hb : Below B w w') : JsAt B w' v l := by
  rcases h with h | ⟨pb, po, c, h1, h2, h3, h4⟩
  · exact Or.inl h
  · exact Or.inr ⟨pb, po, c, h1, h2, h3, fun j u hj => (hb.cell (p := ⟨pb, po + j, none⟩) h3).trans (h4 j u hj)⟩
def TkOk (es : List PE) (q : Nat) (t : TK) : Prop := (∃ d : UInt8, t.word.toList = [116, d] ∧ d.toNat < 48 + q) ∧ (∃ x, lastP es t.word es.length = some x ∧ x.var = false ∧ TEff x.inf ∧ 1 ≤ x.inf.steps ∧ x.inf.steps ≤ 500 ∧ x.inf.steps ≤ t.dl) ∧ t.Fits
theorem last_more {es : List PE} {y : PE} {s : ByteArray} (h : (y.name.toList == s.toList) = false) : lastP (es ++ [y]) s (es ++ [y]).length = lastP es s es.length := by
  have key : ∀ n, n ≤ es.length → lastP (es ++ [y]) s n = lastP es s n := by
    intro n
    induction n with
    | zero => intro _; rfl
    | succ n ih =>
      intro hn
      have e : (es ++ [y]).getD n PE.zero = es.getD n PE.zero := by
        simp only [List.getD_eq_getElem?_getD]
        rw [List.getElem?_append_left (by omega)]
      rw [lastP, lastP, e, ih (by omega)]
  rw [List.length_append, List.length_singleton, lastP]
  have e : (es ++ [y]).getD es.length PE.zero = y := by
    simp only [List.getD_eq_getElem?_getD]
    rw [List.getElem?_append_right (Nat.le_refl _)]
    simp
  rw [e, if_neg (by rw [h]; decide)]
  exact key _ (Nat.le_refl _)
theorem TkOk.more {es es' : List PE} {q : Nat} {t : TK} {c : UInt8} (h : TkOk es q t) (hc : c.toNat = 48 + q) (he : es' = es ∨ ∃ x : PE, es' = es ++ [x] ∧ x.name.toList = [116, c]) : TkOk es' (q + 1) t := by
  obtain ⟨⟨d, h1, h2⟩, ⟨x, h3, h4⟩, h5⟩ := h
  refine ⟨⟨d, h1, by omega⟩, ⟨x, ?_, h4⟩, h5⟩
  rcases he with rfl | ⟨y, rfl, hy⟩
  · exact h3
  · rw [last_more]
    · exact h3
    · rw [hy, h1]
      have : c ≠ d := fun e => by rw [e] at hc; omega
      simp [this]
theorem touch_ty {lo : Nat} {w : World} {bb : Nat} {ev cv : Value} {R : List PE × Int × Int × List Int} (h : LSys lo w bb ev cv R) {k : Nat} {t : TypeId} (hk : touch bb ev cv k) (ht : TyOf w k t) : t = 122 ∨ t = 153 ∨ t = 3 := by
  rcases hk with rfl | e | e
  · exact Or.inl (ht.uniq (ty_blk h.sys.blk))
  · exact Or.inr (Or.inl (ht.uniq (ty_own h.sys.row e)))
  · exact Or.inr (Or.inr (ht.uniq (ty_own h.sys.cod e)))
end Go.Proofs.YtcphhbofjkenaaaGreatDoor
