/-
  For every text, laws.FnExactReadCommand returns true: impl.ReadCommand and spec.ReadCommand answer alike; nothing that was in memory is written.
-/
import Derived.Test.YtdgohbhffjinmaaRows
import Derived.Test.YtdgohbhffjinmaaReadCmdS
import Derived.Test.YtdgohbhffjinmaaReadCmdI
import Derived.Test.YtdgohbhffjinmaaEqOneCommand
import Derived.WalkSmall
import Derived.WalkKit
import Derived.ProofKit
import Derived.OpenShut
import Derived.OpenVars
import Derived.Deep.DeepHandedRow
import Derived.Lib.LaidTab
import Derived.Stop.LaidErr
namespace Go.Proofs.Ytdgohbhffjinmaa.fnExactReadCommand
open Go.ChangeShapes Go.WideShapes Go.ChangeAt Go.ChangeMaps Go.RowKit

set_option maxRecDepth 1000000 in
set_option maxHeartbeats 1000000 in
theorem walk (s : ByteArray) (_hs : s.size ≤ maxLen) (w : World) :
    Calls Try.prog 3 #[.string s] w fun e w' => e = .returned (.bool true) ∧ Below w.heap.size w w' := by
  by_cases hbig : (1048576 : Int) < (s.size : Int)
  · go_enter Try.func3, Try.ntmps3
    go_wp2
    go_ret
    exact ⟨rfl, Below.refl _ _⟩
  have hl : s.size ≤ 1048576 := by omega
  have cS' := fun w => specReadCommand_any s hl w
  have cI' := fun w => implReadCommand_any s hl w
  unfold readCmdAns at cS' cI'
  obtain ⟨d, hd⟩ : ∃ d, readCmdD s = d := ⟨_, rfl⟩
  obtain ⟨ok, hok⟩ : ∃ x, (readCmd s).isSome = x := ⟨_, rfl⟩
  rw [hd, hok] at cS' cI'
  clear hd hok
  obtain ⟨op, tok, sq, ky, vl, vr⟩ := d
  have cE' := fun w => eqCommand_same ⟨op, tok, sq, ky, vl, vr⟩ w
  dsimp only at cS' cI' cE'
  have cS := hid cS'
  have cI := hid cI'
  have cE := hid cE'
  clear cS' cI' cE'
  go_enter Try.func3, Try.ntmps3
  go_wp2_with fail
  refine Calls.mono (cS.out w) ?_
  rintro e w1 ⟨rfl, b1⟩
  have B1 := hid (below_more b1 (.cells #[.int .i64 op, .int .i64 tok, .int .i64 sq, .string ky, .string vl, .int .i64 vr] 23))
  have hx : BlockIs (w1.alloc (.cells #[.int .i64 op, .int .i64 tok, .int .i64 sq, .string ky, .string vl, .int .i64 vr] 23)) w1.heap.size 23 [.int .i64 op, .int .i64 tok, .int .i64 sq, .string ky, .string vl, .int .i64 vr] := heap_alloc_new w1 _
  obtain ⟨W1, hW1⟩ : ∃ W, w1.alloc (.cells #[.int .i64 op, .int .i64 tok, .int .i64 sq, .string ky, .string vl, .int .i64 vr] 23) = W := ⟨_, rfl⟩
  rw [hW1] at B1 hx
  have X1 := hid hx
  have HW1 := hid hW1
  clear b1 hx hW1
  go_wp2_with fail
  rw [HW1.out]
  refine Calls.mono (cI.out W1) ?_
  rintro e w2 ⟨rfl, b2⟩
  have X2 := hid ((X1.out.on b2 X1.out.lt).on (below_more (Below.refl _ _) (.cells #[.int .i64 op, .int .i64 tok, .int .i64 sq, .string ky, .string vl, .int .i64 vr] 23)) (X1.out.on b2 X1.out.lt).lt)
  have B2 := hid (below_more (below_via B1.out b2) (.cells #[.int .i64 op, .int .i64 tok, .int .i64 sq, .string ky, .string vl, .int .i64 vr] 23))
  have hx : BlockIs (w2.alloc (.cells #[.int .i64 op, .int .i64 tok, .int .i64 sq, .string ky, .string vl, .int .i64 vr] 23)) w2.heap.size 23 [.int .i64 op, .int .i64 tok, .int .i64 sq, .string ky, .string vl, .int .i64 vr] := heap_alloc_new w2 _
  obtain ⟨W2, hW2⟩ : ∃ W, w2.alloc (.cells #[.int .i64 op, .int .i64 tok, .int .i64 sq, .string ky, .string vl, .int .i64 vr] 23) = W := ⟨_, rfl⟩
  rw [hW2] at X2 B2 hx
  have HW2 := hid hW2
  have x0 := X2.out.cell (j := 0) rfl
  have y0 := hx.cell (j := 0) rfl
  have x1 := X2.out.cell (j := 1) rfl
  have y1 := hx.cell (j := 1) rfl
  have x2 := X2.out.cell (j := 2) rfl
  have y2 := hx.cell (j := 2) rfl
  have x3 := X2.out.cell (j := 3) rfl
  have y3 := hx.cell (j := 3) rfl
  have x4 := X2.out.cell (j := 4) rfl
  have y4 := hx.cell (j := 4) rfl
  have x5 := X2.out.cell (j := 5) rfl
  have y5 := hx.cell (j := 5) rfl
  clear b2 hx X1 B1 HW1 HW2
  go_wp2_with fail
  refine Calls.mono (cE.out W2) ?_
  rintro e w3 ⟨rfl, b3⟩
  go_wp2
  go_ret
  exact ⟨rfl, below_via B2.out b3⟩

theorem own : ownKnob Try.prog.godebug = none := by kernel_rfl
theorem laidOut : laidOutB Try.prog = true := by kernel_rfl
theorem rowed : varsRowed Try.prog Rows.fnExactReadCommandSpec.vars = true := by kernel_rfl
set_option maxRecDepth 1000000 in
theorem contract (H : Type) (enc : TypeId × Value → H) (W : World) (base : Nat) (args : Array Value) (ds gs : List (DataW H)) (before : List MemPlace)
    (hval : ∀ (j : Nat) t v, Try.f3.params[j]? = some t → args[j]? = some v → Value.okWide Try.prog W .any base t v)
    (hW : DataW.Whole enc Try.prog Try.f3.params.toList Rows.fnExactReadCommandSpec.vars false W args.toList ds gs before) (_hL : laidMetH Try.prog Rows.fnExactReadCommandRow.laid W) :
    Calls Try.prog 3 args W fun e W' => ∃ v, e = .returned v ∧ Rows.fnExactReadCommandSpec.post enc Try.prog Try.f3 false true false false W args v W' := by
  have hW' := hW
  obtain ⟨p, q, hA0, hV0, rfl, hfz, hnd⟩ := hW
  have hV : DataW.TrodVars enc Try.prog W (fun _ => true) Rows.fnExactReadCommandSpec.vars gs q := hV0
  have hA : DataW.TrodAll enc Try.prog W 0 (fun _ => true) true Try.f3.params.toList args.toList ds p := hA0
  rw [Try.params3] at hA hval
  obtain ⟨v0, vs0, d0, ds0, p0, q0, hargs0, rfl, rfl, h0, r0⟩ := trodAll_cons hA
  obtain ⟨rfl, rfl, rfl⟩ := trodAll_nil r0
  obtain rfl : args = #[v0] := by cases args; simp_all
  obtain ⟨a0, rfl, rfl, rfl, w0⟩ := open_string Try.underlying9 (hval 0 9 v0 rfl rfl) h0
  clear hA0 hV0
  obtain ⟨rfl, rfl⟩ := trodVars_none hV
  refine (walk a0 w0 W ).mono fun e W' ⟨he, bel⟩ => ?_
  subst he
  exact ⟨_, rfl, _, _, _, [], _, [], hW', trodAll_mk1 (shut_bool Try.underlying4 _), trodAll_cons_mk (shut_string Try.underlying9 w0) (trodAll_mk0), rfl, bel.frame _, fun h => by cases h⟩

def put (cs : Array Value) : Obj → Obj
  | .cells _ t frozen => .cells cs t frozen
  | o => o

/-- a world for the witness: the tables hold what their initialisers lay -/
def laidWorld (w : World) : World := { w with heap := w.heap }
theorem laid_met (os : Os) : laidMet Try.prog Rows.fnExactReadCommandRow.laid ((laidWorld (World.holding Try.prog os ⟨#[], #[], []⟩)).forCall (fun _ _ => 0) ⟨#[], #[.string ByteArray.empty], []⟩).memory :=
  laidMet_of_run' 8 (by kernel_rfl) (by kernel_rfl)
theorem reads (os : Os) {H : Type} (enc : TypeId × Value → H) : ∃ places, DataW.whole enc Try.prog ((laidWorld (World.holding Try.prog os ⟨#[], #[], []⟩)).forCall (fun _ _ => 0) ⟨#[], #[.string ByteArray.empty], []⟩).memory Try.f3.params.toList Rows.fnExactReadCommandSpec.vars false #[Value.string ByteArray.empty].toList 8 = some ([.lit (.string [])], [], places) :=
  ⟨[], by kernel_rfl⟩

set_option maxRecDepth 1000000 in
theorem lifted (os : Os) (started : os.Started) (H : Type) (enc : TypeId × Value → H) (F : Stop.Interp) :
    ReturnsInHanded {} Try.checked os 3 .any ((OpenSpec.ofChange Rows.fnExactReadCommandSpec).preRow enc Try.prog Try.f3 Rows.fnExactReadCommandRow.domain false Rows.fnExactReadCommandRow.laid) (((OpenSpec.ofChange Rows.fnExactReadCommandSpec).at F).post enc Try.prog Try.f3 false true false false) := by
  obtain ⟨places, hx⟩ := reads os enc
  refine returnsInHanded_of_row (C := Try.checked) (s := OpenSpec.ofChange Rows.fnExactReadCommandSpec) own started (by kernel_rfl) Try.func3
    (witness_row_at (enc := enc) (C := Try.checked) false (laidWorld (World.holding Try.prog os ⟨#[], #[], []⟩)) #[.string ByteArray.empty] rfl (by kernel_rfl) (by kernel_rfl) (by kernel_rfl)
      (OpenSpec.preRow_of_cond 8 hx (by kernel_rfl) (fun k hk => by cases hk) (by kernel_rfl) (laid_met os))) ?_
  intro W base args ds gs before hval hW _ _ _ hL _ _
  exact contract H enc W base args ds gs before hval hW hL

theorem said : Rows.FnExactReadCommandSaid :=
  OpenClaim.holds_of_cond 3 Try.f3 rfl rfl rfl rfl rfl rfl rfl ⟨rfl, rfl, rfl, rfl, rfl⟩ rfl rfl rfl rfl rfl (by kernel_rfl) Try.func3 (by kernel_rfl)
    (of_decide_eq_true (by kernel_rfl)) (by unfold Func.isWrapper; first | (rw [if_pos (by decide +kernel)]; kernel_rfl) | (rw [if_neg (by decide +kernel)]; exact ⟨rfl, rfl⟩))
    (fun os started H enc _ F => by rw [OpenClaim.pre_eq_preRow]; exact lifted os started H enc F)

end Go.Proofs.Ytdgohbhffjinmaa.fnExactReadCommand
