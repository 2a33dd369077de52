/-
  For every argument, laws.FnExactCellText returns true: impl and spec answer alike; nothing that was in memory is written.
-/
import Derived.Test.YtneociicjidcnaaDoorCards
import Derived.Test.YtneociicjidcnaaDoorTie
import Derived.Test.YtneociicjidcnaaDoorOpenCell
import Derived.Test.YtneociicjidcnaaDoorOneCell
import Derived.Test.YtneociicjidcnaaDoorCellTextS
import Derived.Test.YtneociicjidcnaaDoorCellTextI
import Derived.WalkSmall
import Derived.WalkKit
import Derived.ProofKit
import Derived.OpenShut
import Derived.OpenVars
import Derived.Deep.DeepHandedRow
import Derived.Lib.LaidTab
import Derived.Stop.LaidErr
namespace Go.Proofs.YtneociicjidcnaaDoor.fnExactCellText
open Go.ChangeShapes Go.WideShapes Go.ChangeAt Go.ChangeMaps Go.RowKit

set_option maxRecDepth 1000000 in
set_option maxHeartbeats 1000000 in
theorem walk (d : CellD) (hf : d.Fits) (w : World) (ht : Steps w) :
    Calls Tryd.prog 4 #[.agg #[.int .i64 d.dst, .int .i64 d.src, .int .i64 d.kd, .string d.body]] w fun e w' => e = .returned (.bool true) ∧ Below w.heap.size w w' := by
  have HT := hid ht
  clear ht
  have HF := hid hf
  have hb0 := below_more (Below.refl w.heap.size w) (.cells #[.int .i64 d.dst, .int .i64 d.src, .int .i64 d.kd, .string d.body] 36)
  have hx0 : BlockIs (w.alloc (.cells #[.int .i64 d.dst, .int .i64 d.src, .int .i64 d.kd, .string d.body] 36)) w.heap.size 36 [.int .i64 d.dst, .int .i64 d.src, .int .i64 d.kd, .string d.body] := heap_alloc_new w _
  obtain ⟨W0, hW0⟩ : ∃ W0, w.alloc (.cells #[.int .i64 d.dst, .int .i64 d.src, .int .i64 d.kd, .string d.body] 36) = W0 := ⟨_, rfl⟩
  rw [hW0] at hb0 hx0
  have X0 := hid hx0
  have B0 := hid hb0
  have c00 := X0.out.cell (j := 0) rfl
  have c01 := X0.out.cell (j := 1) rfl
  have c02 := X0.out.cell (j := 2) rfl
  have c03 := X0.out.cell (j := 3) rfl
  clear hb0 hx0 hf
  go_enter Tryd.func4, Tryd.ntmps4
  go_wp2_with fail
  refine (szCell_any d 1048576 (by omega) (by omega) HF.out _).mono ?_
  rintro e w1 ⟨hor, b⟩
  have X1 := hid (X0.out.on b X0.out.lt)
  have B1 := hid (below_via B0.out b)
  have c10 := X1.out.cell (j := 0) rfl
  have c11 := X1.out.cell (j := 1) rfl
  have c12 := X1.out.cell (j := 2) rfl
  have c13 := X1.out.cell (j := 3) rfl
  clear b X0 B0 c00 c01 c02 c03 hW0
  rcases hor with ⟨hneg, rfl⟩ | ⟨hnn, rfl⟩
  · go_wp2
    go_ret
    exact ⟨rfl, B1.out⟩
  have hnn' : ¬ (1048576 : Int) - cellOne d < 0 := by omega
  have HNN := hid hnn
  clear hnn
  go_wp2_with fail
  refine (toCell_any d _).mono ?_
  rintro e w2 ⟨rfl, b⟩
  have X2 := hid (X1.out.on b X1.out.lt)
  have B2 := hid (below_via B1.out b)
  have c20 := X2.out.cell (j := 0) rfl
  have c21 := X2.out.cell (j := 1) rfl
  have c22 := X2.out.cell (j := 2) rfl
  have c23 := X2.out.cell (j := 3) rfl
  clear b X1 B1 c10 c11 c12 c13
  go_wp2_with fail
  refine (specCellText_any d _).mono ?_
  rintro e w3 ⟨rfl, b⟩
  have X3 := hid (X2.out.on b X2.out.lt)
  have B3 := hid (below_via B2.out b)
  have c30 := X3.out.cell (j := 0) rfl
  have c31 := X3.out.cell (j := 1) rfl
  have c32 := X3.out.cell (j := 2) rfl
  have c33 := X3.out.cell (j := 3) rfl
  clear b X2 B2 c20 c21 c22 c23
  obtain ⟨T, ok, hr⟩ : ∃ T ok, cellText d = (T, ok) := ⟨_, _, rfl⟩
  have HR := hid hr
  rw [hr]
  dsimp only
  clear hr
  go_wp2_with fail
  refine (toCell_any d _).mono ?_
  rintro e w4 ⟨rfl, b⟩
  have X4 := hid (X3.out.on b X3.out.lt)
  have B4 := hid (below_via B3.out b)
  have c40 := X4.out.cell (j := 0) rfl
  have c41 := X4.out.cell (j := 1) rfl
  have c42 := X4.out.cell (j := 2) rfl
  have c43 := X4.out.cell (j := 3) rfl
  clear b X3 B3 c30 c31 c32 c33
  go_wp2_with fail
  refine (implCellText_any d _ (steps_on HT.out B4.out)).mono ?_
  rintro e w5 ⟨rfl, b⟩
  have X5 := hid (X4.out.on b X4.out.lt)
  have B5 := hid (below_via B4.out b)
  have c50 := X5.out.cell (j := 0) rfl
  have c51 := X5.out.cell (j := 1) rfl
  have c52 := X5.out.cell (j := 2) rfl
  have c53 := X5.out.cell (j := 3) rfl
  clear b X4 B4 c40 c41 c42 c43
  rw [HR.out]
  dsimp only
  go_wp2
  go_ret
  exact ⟨rfl, B5.out⟩

theorem own : ownKnob Tryd.prog.godebug = none := by kernel_rfl
theorem laidOut : laidOutB Tryd.prog = true := by kernel_rfl
theorem rowed : varsRowed Tryd.prog Rows.fnExactCellTextSpec.vars = true := by kernel_rfl
/-- what the row's list gives: what loop.example/g00232/impl.fourSteps holds -/
theorem table0 {W : World} (h : laidMetH Tryd.prog Rows.fnExactCellTextRow.laid W) : Lib.TabIs Tryd.prog W "loop.example/g00232/impl.fourSteps" .u32 stepsTab := by
  have h1 : laidMet Tryd.prog Rows.fnExactCellTextRow.laid W := h
  unfold Rows.fnExactCellTextRow at h1
  have h2 := h1
  rw [show (Rows.laid_loop_example_g00232_impl_fourSteps : DataW Unit) = Lib.tabData .u32 stepsTab by kernel_rfl] at h2
  exact Lib.tabIs_of_head (show Tryd.prog.globalNamed "loop.example/g00232/impl.fourSteps" = some 0 by kernel_rfl) (show (Tryd.prog.globals[0]?).map (·.type) = some 67 by kernel_rfl) Tryd.underlying67 Tryd.underlying58 (show Tryd.prog.cellsOf 58 = 1 by kernel_rfl) (show Tryd.prog.cellsOf 67 = 16 by kernel_rfl) h2
set_option maxRecDepth 1000000 in
theorem contract (H : Type) (enc : TypeId × Value → H) (W : World) (base : Nat) (args : Array Value) (ds gs : List (DataW H)) (before : List MemPlace)
    (hval : ∀ (j : Nat) t v, Tryd.f4.params[j]? = some t → args[j]? = some v → Value.okWide Tryd.prog W .any base t v)
    (hW : DataW.Whole enc Tryd.prog Tryd.f4.params.toList Rows.fnExactCellTextSpec.vars false W args.toList ds gs before) (hL : laidMetH Tryd.prog Rows.fnExactCellTextRow.laid W) :
    Calls Tryd.prog 4 args W fun e W' => ∃ v, e = .returned v ∧ Rows.fnExactCellTextSpec.post enc Tryd.prog Tryd.f4 false true false false W args v W' := by
  have hW' := hW
  obtain ⟨p, q, hA0, hV0, rfl, hfz, hnd⟩ := hW
  have hV : DataW.TrodVars enc Tryd.prog W (fun _ => true) Rows.fnExactCellTextSpec.vars gs q := hV0
  have hA : DataW.TrodAll enc Tryd.prog W 0 (fun _ => true) true Tryd.f4.params.toList args.toList ds p := hA0
  rw [Tryd.params4] at hA hval
  obtain ⟨v0, vs0, d0, ds0, p0, q0, hargs0, rfl, rfl, h0, r0⟩ := trodAll_cons hA
  obtain ⟨rfl, rfl, rfl⟩ := trodAll_nil r0
  obtain rfl : args = #[v0] := by cases args; simp_all
  have k0 := h0
  have lt0 : ∀ x ∈ p0, x.block < W.heap.size := by obtain ⟨m, hm⟩ := k0; exact DataW.trod_lt m _ _ _ hm
  obtain ⟨a0, rfl, hf0⟩ := open_cell (hval 0 36 v0 rfl rfl) h0
  clear hA0 hV0
  have hgs : gs.length = 1 := by
    have := hV
    clear hV hW' hL
    match gs, this with
    | [_], _ => rfl
  match gs, hgs, hV, hW' with
  | [g0], _, hV, hW' =>
    refine (walk a0 hf0 W (table0 hL)).mono fun e W' ⟨he, bel⟩ => ?_
    subst he
    exact ⟨_, rfl, _, _, _, [], _, _, hW', trodAll_mk1 (shut_bool Tryd.underlying4 _), trodAll_cons_mk (Below.trod laidOut (by kernel_rfl) (of_decide_eq_true (by kernel_rfl)) k0 bel lt0) (trodAll_mk0), Below.trodVars laidOut bel rowed hV, bel.frame _, fun h => by cases h⟩

def put (cs : Array Value) : Obj → Obj
  | .cells _ t frozen => .cells cs t frozen
  | o => o

/-- a world for the witness: the tables hold what their initialisers lay -/
def laidWorld (w : World) : World := { w with heap := (w.heap.modify 0 (put (([0, 1166650509, 2333301018, 3466261911, 3189058079, 4221339282, 889615109, 1888477064, 3558460437, 2442158232, 1594529039, 444807554, 1779230218, 797264519, 3776954128, 2761298845] : List Int).map (Value.int .u32)).toArray)) }
theorem laid_met (os : Os) : laidMet Tryd.prog Rows.fnExactCellTextRow.laid ((laidWorld (World.holding Tryd.prog os ⟨#[], #[], []⟩)).forCall (fun _ _ => 0) ⟨#[], #[.agg #[.int .i64 0, .int .i64 0, .int .i64 0, .string ByteArray.empty]], []⟩).memory :=
  laidMet_of_run' 8 (by kernel_rfl) (by kernel_rfl)
theorem reads (os : Os) {H : Type} (enc : TypeId × Value → H) : ∃ places, DataW.whole enc Tryd.prog ((laidWorld (World.holding Tryd.prog os ⟨#[], #[], []⟩)).forCall (fun _ _ => 0) ⟨#[], #[.agg #[.int .i64 0, .int .i64 0, .int .i64 0, .string ByteArray.empty]], []⟩).memory Tryd.f4.params.toList Rows.fnExactCellTextSpec.vars false #[Value.agg #[.int .i64 0, .int .i64 0, .int .i64 0, .string ByteArray.empty]].toList 8 = some ([.agg [.lit (.int .i64 0), .lit (.int .i64 0), .lit (.int .i64 0), .lit (.string [])]], [Rows.laid_loop_example_g00232_impl_fourSteps], places) :=
  ⟨(List.range 16).map (MemPlace.cell 0), by kernel_rfl⟩

set_option maxRecDepth 1000000 in
theorem lifted (os : Os) (started : os.Started) (H : Type) (enc : TypeId × Value → H) (F : Stop.Interp) :
    ReturnsInHanded {} Tryd.checked os 4 .any ((OpenSpec.ofChange Rows.fnExactCellTextSpec).preRow enc Tryd.prog Tryd.f4 Rows.fnExactCellTextRow.domain false Rows.fnExactCellTextRow.laid) (((OpenSpec.ofChange Rows.fnExactCellTextSpec).at F).post enc Tryd.prog Tryd.f4 false true false false) := by
  obtain ⟨places, hx⟩ := reads os enc
  refine returnsInHanded_of_row (C := Tryd.checked) (s := OpenSpec.ofChange Rows.fnExactCellTextSpec) own started (by kernel_rfl) Tryd.func4
    (witness_row_at (enc := enc) (C := Tryd.checked) false (laidWorld (World.holding Tryd.prog os ⟨#[], #[], []⟩)) #[.agg #[.int .i64 0, .int .i64 0, .int .i64 0, .string ByteArray.empty]] rfl (by kernel_rfl) (by kernel_rfl) (by kernel_rfl)
      (OpenSpec.preRow_of_cond 8 hx (by kernel_rfl) (fun k hk => by cases hk) (by kernel_rfl) (laid_met os))) ?_
  intro W base args ds gs before hval hW _ _ _ hL _ _
  exact contract H enc W base args ds gs before hval hW hL

theorem said : Rows.FnExactCellTextSaid :=
  OpenClaim.holds_of_cond 4 Tryd.f4 rfl rfl rfl rfl rfl rfl rfl ⟨rfl, rfl, rfl, rfl, rfl⟩ rfl rfl rfl rfl rfl (by kernel_rfl) Tryd.func4 (by kernel_rfl)
    (of_decide_eq_true (by kernel_rfl)) (by unfold Func.isWrapper; first | (rw [if_pos (by decide +kernel)]; kernel_rfl) | (rw [if_neg (by decide +kernel)]; exact ⟨rfl, rfl⟩))
    (fun os started H enc _ F => by rw [OpenClaim.pre_eq_preRow]; exact lifted os started H enc F)

theorem plain (f : FuncId) (fn : Func) (hf : Tryd.pinned.checked.prog.funcNamed "loop.example/g00232/laws.FnExactCellText" = some f) (hfn : Tryd.pinned.checked.prog.funcs[f]? = some fn) :
    false = Tryd.pinned.checked.prog.looks [] ∧ ∀ (j : Nat) t, fn.params[j]? = some t → Tryd.pinned.checked.prog.wantsStandIn t = false := by
  obtain rfl : f = 4 := Option.some.inj ((show Tryd.prog.funcNamed "loop.example/g00232/laws.FnExactCellText" = some 4 by kernel_rfl).symm.trans hf) |>.symm
  obtain rfl : fn = Tryd.f4 := (Option.some.inj (Tryd.func4.symm.trans hfn)).symm
  refine ⟨by kernel_rfl, fun j t ht => ?_⟩
  rw [Tryd.params4] at ht
  obtain rfl : t = 36 := by simpa using Array.mem_of_getElem? ht
  exact (show Tryd.prog.wantsStandIn 36 = false by kernel_rfl)

theorem card : Rows.FnExactCellTextCardSaid :=
  Claim7.holds_tied_plain_at .later [] _ _ _ _ said (fun _ h => by cases h) (by kernel_rfl) (fun _ h => by cases h) fnExactCellText_row_tie rfl ⟨rfl, rfl⟩ (by kernel_rfl) rfl plain (by kernel_rfl)
end Go.Proofs.YtneociicjidcnaaDoor.fnExactCellText
