/-
  For every text, laws.FnExactUnframe returns true: impl.Unframe and spec.Unframe answer alike, the answer owns its memory, a second call answers so again; nothing that was in memory is written. The table that impl reads is tied to the program's text (the card).
-/
import Derived.Test.YtfkknmhokiacaabDoorCards
import Derived.Test.YtfkknmhokiacaabDoorTie
import Derived.Test.YtfkknmhokiacaabDoorUnframeS
import Derived.Test.YtfkknmhokiacaabDoorUnframeI
import Derived.Test.YtfkknmhokiacaabDoorMark
import Derived.WalkSmall
import Derived.WalkKit
import Derived.ProofKit
import Derived.OpenShut
import Derived.OpenVars
import Derived.Deep.DeepHandedRow
import Derived.Lib.LaidTab
import Derived.Stop.LaidErr
namespace Go.Proofs.YtfkknmhokiacaabDoor.fnExactUnframe
open Go.ChangeShapes Go.WideShapes Go.ChangeAt Go.ChangeMaps Go.RowKit

theorem kept_grownU {w w2 : World} {base : Nat} {v v' : Value} {n : Nat} {xs : List Value} {H : Nat} (h : w.ownsRow base 9 1 v n xs) (hg : w.grownBy w2 v'.ownBlock) (h1 : ∀ k, v.ownBlock = some k → k < H) (h2 : ∀ k, v'.ownBlock = some k → H ≤ k) : w2.ownsRow base 9 1 v n xs := by
  refine h.kept hg ?_
  cases hv : v.ownBlock with
  | none => exact Or.inl rfl
  | some g =>
    refine Or.inr fun e => ?_
    have a1 := h1 g hv
    have a2 := h2 g e.symm
    omega

set_option maxRecDepth 1000000 in
set_option maxHeartbeats 1000000 in
theorem walk (a0 : ByteArray) (_w0 : a0.size ≤ maxLen) (w : World) (ht : Steps w) :
    Calls Tryd.prog 3 #[.string a0] w fun e w' => e = .returned (.bool true) ∧ Below w.heap.size w w' := by
  have HT := (show Hid (Steps w) from ht)
  clear ht
  by_cases hbig : 1048576 < a0.size
  · go_enter Tryd.func3, Tryd.ntmps3
    go_wp2
    go_ret
    exact ⟨rfl, Below.refl _ _⟩
  have P1' := fun w => specUnframe_any a0 (by omega) w
  have P2' := fun w h => implUnframe_any a0 w h
  unfold unframeAns at P1' P2'
  have hl := Nat.le_trans (ufT_len a0) (show 20000 ≤ 1000000 by decide)
  obtain ⟨ts, hts⟩ : ∃ ts, ufT a0 = ts := ⟨_, rfl⟩
  obtain ⟨E, hE⟩ : ∃ E, ufE a0 = E := ⟨_, rfl⟩
  rw [hts, hE] at P1' P2'
  rw [hts] at hl
  have P1 := (show Hid _ from P1')
  have P2 := (show Hid _ from P2')
  clear P1' P2' hts hE
  go_enter Tryd.func3, Tryd.ntmps3
  go_wp2_with fail
  refine (P1.out _).mono ?_
  rintro e w1 ⟨v0, rfl, o1, b1⟩
  have O1 : Hid (w1.ownsRow w.heap.size 9 1 v0 ts.length (st ts)) := o1
  clear o1
  go_wp2_with fail
  refine (P2.out _ (steps_on HT.out b1)).mono ?_
  rintro e w2 ⟨v1, rfl, o2, b2⟩
  have O2 : Hid (w2.ownsRow w1.heap.size 9 1 v1 ts.length (st ts)) := o2
  clear o2
  go_wp2_with fail
  refine (eqStringS_same hl O2.out (kept_onS O1.out b2)).mono ?_
  rintro e w3 ⟨rfl, b3⟩
  go_wp2_with fail
  refine (markStringS_any 1 (by omega) hl (kept_onS O2.out b3)).mono ?_
  rintro e w4 ⟨rfl, o4, g4⟩
  have O4 : Hid (w4.ownsRow w1.heap.size 9 1 v1 ts.length (st (marked 1 ts.length ts))) := o4
  have G4 := (show Hid _ from g4)
  clear o4 g4
  go_wp2_with fail
  refine (heldStringS_any 1 (by omega) hl O4.out).mono ?_
  rintro e w5 ⟨rfl, b5⟩
  have B5 : Hid (Below w.heap.size w w5) := by
    have s1 := b1.size
    have s2 := b2.size
    have s3 := b3.size
    have q3 : Below w.heap.size w w3 := (b1.trans (b2.mono s1)).trans (b3.mono (by omega))
    have q4 : Below w.heap.size w w4 := q3.grown G4.out (by omega) (fun k hk => by have := (O2.out.lt k hk).1; omega)
    exact q4.trans (b5.mono q4.size)
  go_wp2_with fail
  refine (P2.out _ (steps_on HT.out B5.out)).mono ?_
  rintro e w6 ⟨v2, rfl, o6, b6⟩
  have O6 : Hid (w6.ownsRow w5.heap.size 9 1 v2 ts.length (st ts)) := o6
  clear o6
  have O0 : Hid (w6.ownsRow w.heap.size 9 1 v0 ts.length (st ts)) := by
    have q3 := kept_onS (kept_onS O1.out b2) b3
    have q4 := kept_grownU (H := w1.heap.size) q3 G4.out (fun k hk => (O1.out.lt k hk).2) (fun k hk => (O2.out.lt k hk).1)
    exact kept_onS (kept_onS q4 b5) b6
  go_wp2_with fail
  refine (eqStringS_same hl O6.out O0.out).mono ?_
  rintro e w7 ⟨rfl, b7⟩
  go_wp2_with fail
  refine (heldStringS_any 1 (by omega) hl (kept_onS (kept_onS (kept_onS O4.out b5) b6) b7)).mono ?_
  rintro e w8 ⟨rfl, b8⟩
  have HB : Hid (Below w.heap.size w w8) := by
    have q6 := B5.out.trans (b6.mono B5.out.size)
    have q7 := q6.trans (b7.mono q6.size)
    exact q7.trans (b8.mono q7.size)
  go_wp2
  go_ret
  exact ⟨rfl, HB.out⟩

theorem own : ownKnob Tryd.prog.godebug = none := by kernel_rfl
theorem laidOut : laidOutB Tryd.prog = true := by kernel_rfl
theorem rowed : varsRowed Tryd.prog Rows.fnExactUnframeSpec.vars = true := by kernel_rfl
/-- what the row's list gives: what loop.example/g00232/impl.fourSteps holds -/
theorem table0 {W : World} (h : laidMetH Tryd.prog Rows.fnExactUnframeRow.laid W) : Lib.TabIs Tryd.prog W "loop.example/g00232/impl.fourSteps" .u32 stepsTab := by
  have h1 : laidMet Tryd.prog Rows.fnExactUnframeRow.laid W := h
  unfold Rows.fnExactUnframeRow at h1
  have h2 := h1
  rw [show (Rows.laid_loop_example_g00232_impl_fourSteps : DataW Unit) = Lib.tabData .u32 stepsTab by kernel_rfl] at h2
  exact Lib.tabIs_of_head (show Tryd.prog.globalNamed "loop.example/g00232/impl.fourSteps" = some 0 by kernel_rfl) (show (Tryd.prog.globals[0]?).map (·.type) = some 52 by kernel_rfl) Tryd.underlying52 Tryd.underlying49 (show Tryd.prog.cellsOf 49 = 1 by kernel_rfl) (show Tryd.prog.cellsOf 52 = 16 by kernel_rfl) h2
set_option maxRecDepth 1000000 in
theorem contract (H : Type) (enc : TypeId × Value → H) (W : World) (base : Nat) (args : Array Value) (ds gs : List (DataW H)) (before : List MemPlace)
    (hval : ∀ (j : Nat) t v, Tryd.f3.params[j]? = some t → args[j]? = some v → Value.okWide Tryd.prog W .any base t v)
    (hW : DataW.Whole enc Tryd.prog Tryd.f3.params.toList Rows.fnExactUnframeSpec.vars false W args.toList ds gs before) (hL : laidMetH Tryd.prog Rows.fnExactUnframeRow.laid W) :
    Calls Tryd.prog 3 args W fun e W' => ∃ v, e = .returned v ∧ Rows.fnExactUnframeSpec.post enc Tryd.prog Tryd.f3 false true false false W args v W' := by
  have hW' := hW
  obtain ⟨p, q, hA0, hV0, rfl, hfz, hnd⟩ := hW
  have hV : DataW.TrodVars enc Tryd.prog W (fun _ => true) Rows.fnExactUnframeSpec.vars gs q := hV0
  have hA : DataW.TrodAll enc Tryd.prog W 0 (fun _ => true) true Tryd.f3.params.toList args.toList ds p := hA0
  rw [Tryd.params3] at hA hval
  obtain ⟨v0, vs0, d0, ds0, p0, q0, hargs0, rfl, rfl, h0, r0⟩ := trodAll_cons hA
  obtain ⟨rfl, rfl, rfl⟩ := trodAll_nil r0
  obtain rfl : args = #[v0] := by cases args; simp_all
  obtain ⟨a0, rfl, rfl, rfl, w0⟩ := open_string Tryd.underlying9 (hval 0 9 v0 rfl rfl) h0
  clear hA0 hV0
  have hgs : gs.length = 1 := by
    have := hV
    clear hV hW' hL
    match gs, this with
    | [_], _ => rfl
  match gs, hgs, hV, hW' with
  | [g0], _, hV, hW' =>
    refine (walk a0 w0 W (table0 hL)).mono fun e W' ⟨he, bel⟩ => ?_
    subst he
    exact ⟨_, rfl, _, _, _, [], _, _, hW', trodAll_mk1 (shut_bool Tryd.underlying4 _), trodAll_cons_mk (shut_string Tryd.underlying9 w0) (trodAll_mk0), Below.trodVars laidOut bel rowed hV, bel.frame _, fun h => by cases h⟩

def put (cs : Array Value) : Obj → Obj
  | .cells _ t frozen => .cells cs t frozen
  | o => o

/-- a world for the witness: the tables hold what their initialisers lay -/
def laidWorld (w : World) : World := { w with heap := (w.heap.modify 0 (put (([0, 1166650509, 2333301018, 3466261911, 3189058079, 4221339282, 889615109, 1888477064, 3558460437, 2442158232, 1594529039, 444807554, 1779230218, 797264519, 3776954128, 2761298845] : List Int).map (Value.int .u32)).toArray)) }
theorem laid_met (os : Os) : laidMet Tryd.prog Rows.fnExactUnframeRow.laid ((laidWorld (World.holding Tryd.prog os ⟨#[], #[], []⟩)).forCall (fun _ _ => 0) ⟨#[], #[.string ByteArray.empty], []⟩).memory :=
  laidMet_of_run' 8 (by kernel_rfl) (by kernel_rfl)
theorem reads (os : Os) {H : Type} (enc : TypeId × Value → H) : ∃ places, DataW.whole enc Tryd.prog ((laidWorld (World.holding Tryd.prog os ⟨#[], #[], []⟩)).forCall (fun _ _ => 0) ⟨#[], #[.string ByteArray.empty], []⟩).memory Tryd.f3.params.toList Rows.fnExactUnframeSpec.vars false #[Value.string ByteArray.empty].toList 8 = some ([.lit (.string [])], [Rows.laid_loop_example_g00232_impl_fourSteps], places) :=
  ⟨(List.range 16).map (MemPlace.cell 0), by kernel_rfl⟩

set_option maxRecDepth 1000000 in
theorem lifted (os : Os) (started : os.Started) (H : Type) (enc : TypeId × Value → H) (F : Stop.Interp) :
    ReturnsInHanded {} Tryd.checked os 3 .any ((OpenSpec.ofChange Rows.fnExactUnframeSpec).preRow enc Tryd.prog Tryd.f3 Rows.fnExactUnframeRow.domain false Rows.fnExactUnframeRow.laid) (((OpenSpec.ofChange Rows.fnExactUnframeSpec).at F).post enc Tryd.prog Tryd.f3 false true false false) := by
  obtain ⟨places, hx⟩ := reads os enc
  refine returnsInHanded_of_row (C := Tryd.checked) (s := OpenSpec.ofChange Rows.fnExactUnframeSpec) own started (by kernel_rfl) Tryd.func3
    (witness_row_at (enc := enc) (C := Tryd.checked) false (laidWorld (World.holding Tryd.prog os ⟨#[], #[], []⟩)) #[.string ByteArray.empty] rfl (by kernel_rfl) (by kernel_rfl) (by kernel_rfl)
      (OpenSpec.preRow_of_cond 8 hx (by kernel_rfl) (fun k hk => by cases hk) (by kernel_rfl) (laid_met os))) ?_
  intro W base args ds gs before hval hW _ _ _ hL _ _
  exact contract H enc W base args ds gs before hval hW hL

theorem said : Rows.FnExactUnframeSaid :=
  OpenClaim.holds_of_cond 3 Tryd.f3 rfl rfl rfl rfl rfl rfl rfl ⟨rfl, rfl, rfl, rfl, rfl⟩ rfl rfl rfl rfl rfl (by kernel_rfl) Tryd.func3 (by kernel_rfl)
    (of_decide_eq_true (by kernel_rfl)) (by unfold Func.isWrapper; first | (rw [if_pos (by decide +kernel)]; kernel_rfl) | (rw [if_neg (by decide +kernel)]; exact ⟨rfl, rfl⟩))
    (fun os started H enc _ F => by rw [OpenClaim.pre_eq_preRow]; exact lifted os started H enc F)

theorem plain (f : FuncId) (fn : Func) (hf : Tryd.pinned.checked.prog.funcNamed "loop.example/g00232/laws.FnExactUnframe" = some f) (hfn : Tryd.pinned.checked.prog.funcs[f]? = some fn) :
    false = Tryd.pinned.checked.prog.looks [] ∧ ∀ (j : Nat) t, fn.params[j]? = some t → Tryd.pinned.checked.prog.wantsStandIn t = false := by
  obtain rfl : f = 3 := Option.some.inj ((show Tryd.prog.funcNamed "loop.example/g00232/laws.FnExactUnframe" = some 3 by kernel_rfl).symm.trans hf) |>.symm
  obtain rfl : fn = Tryd.f3 := (Option.some.inj (Tryd.func3.symm.trans hfn)).symm
  refine ⟨by kernel_rfl, fun j t ht => ?_⟩
  rw [Tryd.params3] at ht
  obtain rfl : t = 9 := by simpa using Array.mem_of_getElem? ht
  exact (show Tryd.prog.wantsStandIn 9 = false by kernel_rfl)

theorem card : Rows.FnExactUnframeCardSaid :=
  Claim7.holds_tied_plain_at .later [] _ _ _ _ said (fun _ h => by cases h) (by kernel_rfl) (fun _ h => by cases h) fnExactUnframe_row_tie rfl ⟨rfl, rfl⟩ (by kernel_rfl) rfl plain (by kernel_rfl)
end Go.Proofs.YtfkknmhokiacaabDoor.fnExactUnframe
