/- PROVED: 'forthwithkeep.Met' returns true for all numbers, and these read behind the call as they read before; where the listed variables hold what the program's text lays (the form's own reach: each list and each text that is read takes at most 2^47 - 4096 bytes). -/
import Derived.Carry
import Derived.Deep.DeepHandedRow
import Derived.OpenShut
import Derived.ProofKit
import Derived.Test.YtcphhbofjkenaaaGreatDoorU38
import Derived.Test.YtcphhbofjkenaaaGreatDoorT43
import Derived.Test.YtcphhbofjkenaaaGreatDoorCards
import Derived.Test.YtcphhbofjkenaaaGreatDoorTie
import Derived.Test.YtcphhbofjkenaaaGreatDoorT02
import Derived.Test.YtcphhbofjkenaaaGreatDoorT34
import Derived.Test.YtcphhbofjkenaaaGreatDoorT35
import Derived.Test.YtcphhbofjkenaaaGreatDoorT37
import Derived.Test.YtcphhbofjkenaaaGreatDoorT42
namespace Go.Proofs.YtcphhbofjkenaaaGreatDoor
set_option maxRecDepth 100000
open Go Go.ChangeShapes Go.WideShapes Go.ChangeAt Go.RowKit
set_option linter.unusedVariables false
theorem own : ownKnob Tryz.prog.godebug = none := by kernel_rfl
theorem laidOut : laidOutB Tryz.prog = true := by kernel_rfl
def litV : DataW Unit → Value
  | .lit (.int k z) => .int k z
  | _ => undef
def aggV : DataW Unit → Array Value
  | .agg l => (l.map litV).toArray
  | _ => #[]
def putV (h : Array Obj) (g : Nat) (cs : Array Value) : Array Obj := h.modify g fun
  | .cells _ t frozen => .cells cs t frozen
  | o => o
def errObjs : Array Obj := #[.cells #[.string ⟨#[118, 97, 108, 117, 101, 32, 111, 117, 116, 32, 111, 102, 32, 114, 97, 110, 103, 101]⟩] 305, .cells #[.string ⟨#[105, 110, 118, 97, 108, 105, 100, 32, 115, 121, 110, 116, 97, 120]⟩] 305]
def laidHeap (h : Array Obj) (low : Nat) : Array Obj :=
  putV (putV (putV (putV (putV (putV h 0 opCells.toArray) 2 #[.iface 303 (.pointer (some ⟨low, 0, none⟩))]) 1 #[.iface 303 (.pointer (some ⟨low + 1, 0, none⟩))])
    3 (aggV Rows.laid_internal_strconv_uint64pow10)) 4 (aggV Rows.laid_math_bits_deBruijn32tab)) 5 (aggV Rows.laid_math_bits_deBruijn64tab)
theorem laid_met (os : Os) : laidMet Tryz.prog Rows.metRow.laid (({ World.holding Tryz.prog os ⟨errObjs, #[], []⟩ with heap := laidHeap (World.holding Tryz.prog os ⟨errObjs, #[], []⟩).heap (World.holding Tryz.prog default ⟨#[], #[], []⟩).heap.size } : World).forCall (fun _ _ => 0) ⟨#[], #[.slice none 0 0, .slice none 0 0, .slice none 0 0, .int .i64 0], []⟩).memory :=
  laidMet_of_run' 8 (by kernel_rfl) (by kernel_rfl)
theorem reads (os : Os) {H : Type} (enc : TypeId × Value → H) : ∃ places, DataW.whole enc Tryz.prog (({ World.holding Tryz.prog os ⟨errObjs, #[], []⟩ with heap := laidHeap (World.holding Tryz.prog os ⟨errObjs, #[], []⟩).heap (World.holding Tryz.prog default ⟨#[], #[], []⟩).heap.size } : World).forCall (fun _ _ => 0) ⟨#[], #[.slice none 0 0, .slice none 0 0, .slice none 0 0, .int .i64 0], []⟩).memory Tryz.f9.params.toList Rows.metSpec.vars false #[Value.slice none 0 0, .slice none 0 0, .slice none 0 0, .int .i64 0].toList 8 = some ([.nil, .nil, .nil, .lit (.int .i64 0)], [], places) :=
  ⟨[], by kernel_rfl⟩
theorem contract (H : Type) (enc : TypeId × Value → H) (W : World) (base : Nat) (args : Array Value) (ds gs : List (DataW H)) (before : List MemPlace)
    (hval : ∀ (j : Nat) t v, Tryz.f9.params[j]? = some t → args[j]? = some v → Value.okWide Tryz.prog W .any base t v)
    (hW : DataW.Whole enc Tryz.prog Tryz.f9.params.toList Rows.metSpec.vars false W args.toList ds gs before) (hL : laidMetH Tryz.prog Rows.metRow.laid W) (hc : (DataW.weightsEach Tryz.prog (Tryz.f9.params.toList ++ (OpenSpec.ofChange Rows.metSpec).bare.plain.varTypes Tryz.prog) (ds ++ gs)).all (· ≤ reachBytes) = true) :
    Calls Tryz.prog 9 args W fun e W' => ∃ v, e = .returned v ∧ Rows.metSpec.post enc Tryz.prog Tryz.f9 false true false false W args v W' := by
  have hW' := hW
  obtain ⟨p, q, hA0, hV, rfl, _, _⟩ := hW
  have hA : DataW.TrodAll enc Tryz.prog W 0 (fun _ => true) true Tryz.f9.params.toList args.toList ds p := hA0
  rw [Tryz.params9] at hA hval
  obtain ⟨v0, v1, v2, v3, d0, d1, d2, d3, p0, p1, p2, p3, rfl, rfl, rfl, h0, h1, h2, h3⟩ := trodAll_four hA
  obtain ⟨rfl, rfl⟩ := trodVars_none hV
  obtain ⟨a0, n0, c0, rfl⟩ := okWide_slice Tryz.underlying24 (hval 0 24 v0 rfl rfl)
  obtain ⟨a1, n1, c1, rfl⟩ := okWide_slice Tryz.underlying54 (hval 1 54 v1 rfl rfl)
  obtain ⟨a2, n2, c2, rfl⟩ := okWide_slice Tryz.underlying24 (hval 2 24 v2 rfl rfl)
  obtain ⟨z, rfl⟩ := okWide_int Tryz.underlying3 (hval 3 3 v3 rfl rfl)
  clear hA0
  simp only [List.append_nil] at hW'
  have hL' : laidMet Tryz.prog Rows.metRow.laid W := hL
  have hT : Tab W := tab_of_laid hL' (by simp [Rows.metRow]) (by simp [Rows.metRow]) (by simp [Rows.metRow])
  have hz : I64 z := by
    obtain ⟨fuel, h3'⟩ := h3
    obtain ⟨y, e, _, hw⟩ := DataW.trod_int Tryz.underlying3 h3'
    obtain rfl : z = y := by simpa [Value.cells] using e
    simp only [Lit.wf, Bool.and_eq_true, decide_eq_true_eq] at hw
    exact ⟨hw.1, hw.2⟩
  obtain ⟨l0, x0, y0, z0⟩ := ints_of_trod h0 hc 0 (by kernel_rfl) rfl
  obtain ⟨l1, x1, y1, z1⟩ := jobs_of_trod h1 hc 1 (by kernel_rfl) rfl
  obtain ⟨l2, x2, y2, z2⟩ := ints_of_trod h2 hc 2 (by kernel_rfl) rfl
  have hlt : ∀ x ∈ p0 ++ p1 ++ p2 ++ p3, x.block < W.heap.size := fun x hx => by simpa using hW'.lt x hx
  refine (keep_met W hT a0 a1 a2 n0 c0 n1 c1 n2 c2 l0 l2 l1 z x0 x1 x2 y0 y1 y2 hz (Nat.le_refl _) z0 z1 z2).mono fun e W' ⟨he, hbel⟩ => ?_
  subst he
  have g0 := Below.trod laidOut (by kernel_rfl) (of_decide_eq_true (by kernel_rfl)) h0 hbel (fun x hx => hlt x (by simp [hx]))
  have g1 := Below.trod laidOut (by kernel_rfl) (of_decide_eq_true (by kernel_rfl)) h1 hbel (fun x hx => hlt x (by simp [hx]))
  have g2 := Below.trod laidOut (by kernel_rfl) (of_decide_eq_true (by kernel_rfl)) h2 hbel (fun x hx => hlt x (by simp [hx]))
  have g3 := Below.trod laidOut (by kernel_rfl) (of_decide_eq_true (by kernel_rfl)) h3 hbel (fun x hx => hlt x (by simp [hx]))
  exact ⟨_, rfl, _, _, _, [], _, [], hW', trodAll_mk1 (shut_bool Tryz.underlying4 _), trodAll_mk4 g0 g1 g2 g3, rfl, hbel.frame _, fun h => by cases h⟩
theorem liftedUpto (os : Os) (started : os.Started) (H : Type) (enc : TypeId × Value → H) (F : Stop.Interp) :
    ReturnsInHanded {} Tryz.checked os 9 .any ((OpenSpec.ofChange Rows.metSpec).preRow enc Tryz.prog Tryz.f9 Rows.metRow.domain false Rows.metRow.laid) (((OpenSpec.ofChange Rows.metSpec).at F).post enc Tryz.prog Tryz.f9 false true false false) := by
  obtain ⟨places, hx⟩ := reads os enc
  refine returnsInHanded_of_row (C := Tryz.checked) (s := OpenSpec.ofChange Rows.metSpec) own started (by kernel_rfl) Tryz.func9
    (witness_row_at (enc := enc) (C := Tryz.checked) false ({ World.holding Tryz.prog os ⟨errObjs, #[], []⟩ with heap := laidHeap (World.holding Tryz.prog os ⟨errObjs, #[], []⟩).heap (World.holding Tryz.prog default ⟨#[], #[], []⟩).heap.size } : World) #[.slice none 0 0, .slice none 0 0, .slice none 0 0, .int .i64 0] rfl (by kernel_rfl) (by kernel_rfl) (by kernel_rfl)
      (OpenSpec.preRow_of_cond 8 hx (by kernel_rfl) (fun k hk => by cases hk) (by kernel_rfl) (laid_met os))) ?_
  intro W base args ds gs before hval hW _ _ hz hL _ _
  exact contract H enc W base args ds gs before hval hW hL hz
theorem saidUpto : Rows.MetSaid :=
  OpenClaim.holds_of_cond 9 Tryz.f9 rfl rfl rfl rfl rfl rfl rfl ⟨rfl, rfl, rfl, rfl, rfl⟩ rfl rfl rfl rfl rfl (by kernel_rfl) Tryz.func9 (by kernel_rfl)
    (of_decide_eq_true (by kernel_rfl)) (by unfold Func.isWrapper; first | (rw [if_pos (by decide +kernel)]; kernel_rfl) | (rw [if_neg (by decide +kernel)]; exact ⟨rfl, rfl⟩))
    (fun os started H enc _ F => by rw [OpenClaim.pre_eq_preRow]; exact liftedUpto os started H enc F)
theorem plain (f : FuncId) (fn : Func) (hf : Tryz.pinned.checked.prog.funcNamed "forthwith/forthwithkeep.Met" = some f) (hfn : Tryz.pinned.checked.prog.funcs[f]? = some fn) :
    true = Tryz.pinned.checked.prog.looks [] ∧ ∀ (j : Nat) t, fn.params[j]? = some t → Tryz.pinned.checked.prog.wantsStandIn t = false := by
  obtain rfl : f = 9 := Option.some.inj ((show Tryz.prog.funcNamed "forthwith/forthwithkeep.Met" = some 9 by kernel_rfl).symm.trans hf) |>.symm
  obtain rfl : fn = Tryz.f9 := (Option.some.inj (Tryz.func9.symm.trans hfn)).symm
  refine ⟨by kernel_rfl, fun j t ht => ?_⟩
  rw [Tryz.params9] at ht
  have ht2 : t = 24 ∨ t = 54 ∨ t = 24 ∨ t = 3 := by simpa using Array.mem_of_getElem? ht
  rcases ht2 with rfl | rfl | rfl | rfl
  · exact (show Tryz.prog.wantsStandIn 24 = false by kernel_rfl)
  · exact (show Tryz.prog.wantsStandIn 54 = false by kernel_rfl)
  · exact (show Tryz.prog.wantsStandIn 24 = false by kernel_rfl)
  · exact (show Tryz.prog.wantsStandIn 3 = false by kernel_rfl)
theorem met_holds : Rows.MetCardSaid :=
  Claim7.holds_tied_plain_at .later [] _ _ _ _ saidUpto (fun _ h => by cases h) (by kernel_rfl) (fun _ h => by cases h) met_row_tie rfl ⟨rfl, rfl⟩ (by kernel_rfl) rfl plain (by kernel_rfl)
end Go.Proofs.YtcphhbofjkenaaaGreatDoor
