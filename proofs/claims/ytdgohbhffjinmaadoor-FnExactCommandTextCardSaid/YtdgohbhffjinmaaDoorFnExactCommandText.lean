/-
  For every argument, laws.FnExactCommandText returns true: impl and spec answer alike; nothing that was in memory is written.
-/
import Derived.Test.YtdgohbhffjinmaaDoorCards
import Derived.Test.YtdgohbhffjinmaaDoorTie
import Derived.Test.YtdgohbhffjinmaaDoorOpenCommand
import Derived.Test.YtdgohbhffjinmaaDoorOneCommand
import Derived.Test.YtdgohbhffjinmaaDoorCmdTextX
import Derived.Test.YtdgohbhffjinmaaDoorCmdTextI
import Derived.WalkSmall
import Derived.WalkKit
import Derived.ProofKit
import Derived.OpenShut
import Derived.OpenVars
import Derived.Deep.DeepHandedRow
import Derived.Lib.LaidTab
import Derived.Stop.LaidErr
namespace Go.Proofs.YtdgohbhffjinmaaDoor.fnExactCommandText
open Go.ChangeShapes Go.WideShapes Go.ChangeAt Go.ChangeMaps Go.RowKit

set_option maxRecDepth 1000000 in
set_option maxHeartbeats 1000000 in
theorem walk (d : CommandD) (hf : d.Fits) (w : World) :
    Calls Tryd.prog 3 #[.agg #[.int .i64 d.op, .int .i64 d.token, .int .i64 d.seq, .string d.key, .string d.val, .int .i64 d.ver]] w fun e w' => e = .returned (.bool true) ∧ Below w.heap.size w w' := by
  have cS' := fun w => specCommandText_any d w
  have cI' := fun w => implCommandText_any d w
  obtain ⟨T, ok, ha⟩ : ∃ T ok, cmdAns d = .tuple #[.string T, .bool ok] := by unfold cmdAns; split <;> exact ⟨_, _, rfl⟩
  rw [ha] at cS' cI'
  have cS := hid cS'
  have cI := hid cI'
  clear cS' cI' ha
  have HF := hid hf
  have hb0 := below_more (Below.refl w.heap.size w) (.cells #[.int .i64 d.op, .int .i64 d.token, .int .i64 d.seq, .string d.key, .string d.val, .int .i64 d.ver] 23)
  have hx0 : BlockIs (w.alloc (.cells #[.int .i64 d.op, .int .i64 d.token, .int .i64 d.seq, .string d.key, .string d.val, .int .i64 d.ver] 23)) w.heap.size 23 [.int .i64 d.op, .int .i64 d.token, .int .i64 d.seq, .string d.key, .string d.val, .int .i64 d.ver] := heap_alloc_new w _
  obtain ⟨W0, hW0⟩ : ∃ W0, w.alloc (.cells #[.int .i64 d.op, .int .i64 d.token, .int .i64 d.seq, .string d.key, .string d.val, .int .i64 d.ver] 23) = W0 := ⟨_, rfl⟩
  rw [hW0] at hb0 hx0
  have X0 := hid hx0
  have B0 := hid hb0
  have c00 := X0.out.cell (j := 0) rfl
  have c01 := X0.out.cell (j := 1) rfl
  have c02 := X0.out.cell (j := 2) rfl
  have c03 := X0.out.cell (j := 3) rfl
  have c04 := X0.out.cell (j := 4) rfl
  have c05 := X0.out.cell (j := 5) rfl
  clear hb0 hx0 hf
  go_enter Tryd.func3, Tryd.ntmps3
  go_wp2_with fail
  refine (szCommand_any d 1048576 (by omega) (by omega) HF.out _).mono ?_
  rintro e w1 ⟨hor, b⟩
  have X1 := hid (X0.out.on b X0.out.lt)
  have B1 := hid (below_via B0.out b)
  have c10 := X1.out.cell (j := 0) rfl
  have c11 := X1.out.cell (j := 1) rfl
  have c12 := X1.out.cell (j := 2) rfl
  have c13 := X1.out.cell (j := 3) rfl
  have c14 := X1.out.cell (j := 4) rfl
  have c15 := X1.out.cell (j := 5) rfl
  clear b X0 B0 c00 c01 c02 c03 c04 c05 hW0
  rcases hor with ⟨hneg, rfl⟩ | ⟨hnn, rfl⟩
  · go_wp2
    go_ret
    exact ⟨rfl, B1.out⟩
  have hnn' : ¬ (1048576 : Int) - commandOne d < 0 := by omega
  have HNN := hid hnn
  clear hnn
  go_wp2_with fail
  refine (toCommand_any d _).mono ?_
  rintro e w2 ⟨rfl, b⟩
  have X2 := hid (X1.out.on b X1.out.lt)
  have B2 := hid (below_via B1.out b)
  have c20 := X2.out.cell (j := 0) rfl
  have c21 := X2.out.cell (j := 1) rfl
  have c22 := X2.out.cell (j := 2) rfl
  have c23 := X2.out.cell (j := 3) rfl
  have c24 := X2.out.cell (j := 4) rfl
  have c25 := X2.out.cell (j := 5) rfl
  clear b X1 B1 c10 c11 c12 c13 c14 c15
  go_wp2_with fail
  refine (cS.out _).mono ?_
  rintro e w3 ⟨rfl, b⟩
  have X3 := hid (X2.out.on b X2.out.lt)
  have B3 := hid (below_via B2.out b)
  have c30 := X3.out.cell (j := 0) rfl
  have c31 := X3.out.cell (j := 1) rfl
  have c32 := X3.out.cell (j := 2) rfl
  have c33 := X3.out.cell (j := 3) rfl
  have c34 := X3.out.cell (j := 4) rfl
  have c35 := X3.out.cell (j := 5) rfl
  clear b X2 B2 c20 c21 c22 c23 c24 c25
  go_wp2_with fail
  refine (toCommand_any d _).mono ?_
  rintro e w4 ⟨rfl, b⟩
  have X4 := hid (X3.out.on b X3.out.lt)
  have B4 := hid (below_via B3.out b)
  have c40 := X4.out.cell (j := 0) rfl
  have c41 := X4.out.cell (j := 1) rfl
  have c42 := X4.out.cell (j := 2) rfl
  have c43 := X4.out.cell (j := 3) rfl
  have c44 := X4.out.cell (j := 4) rfl
  have c45 := X4.out.cell (j := 5) rfl
  clear b X3 B3 c30 c31 c32 c33 c34 c35
  go_wp2_with fail
  refine (cI.out _).mono ?_
  rintro e w5 ⟨rfl, b⟩
  have X5 := hid (X4.out.on b X4.out.lt)
  have B5 := hid (below_via B4.out b)
  have c50 := X5.out.cell (j := 0) rfl
  have c51 := X5.out.cell (j := 1) rfl
  have c52 := X5.out.cell (j := 2) rfl
  have c53 := X5.out.cell (j := 3) rfl
  have c54 := X5.out.cell (j := 4) rfl
  have c55 := X5.out.cell (j := 5) rfl
  clear b X4 B4 c40 c41 c42 c43 c44 c45
  skip
  go_wp2
  go_ret
  exact ⟨rfl, B5.out⟩

theorem own : ownKnob Tryd.prog.godebug = none := by kernel_rfl
theorem laidOut : laidOutB Tryd.prog = true := by kernel_rfl
theorem rowed : varsRowed Tryd.prog Rows.fnExactCommandTextSpec.vars = true := by kernel_rfl
set_option maxRecDepth 1000000 in
theorem contract (H : Type) (enc : TypeId × Value → H) (W : World) (base : Nat) (args : Array Value) (ds gs : List (DataW H)) (before : List MemPlace)
    (hval : ∀ (j : Nat) t v, Tryd.f3.params[j]? = some t → args[j]? = some v → Value.okWide Tryd.prog W .any base t v)
    (hW : DataW.Whole enc Tryd.prog Tryd.f3.params.toList Rows.fnExactCommandTextSpec.vars false W args.toList ds gs before) (_hL : laidMetH Tryd.prog Rows.fnExactCommandTextRow.laid W) :
    Calls Tryd.prog 3 args W fun e W' => ∃ v, e = .returned v ∧ Rows.fnExactCommandTextSpec.post enc Tryd.prog Tryd.f3 false true false false W args v W' := by
  have hW' := hW
  obtain ⟨p, q, hA0, hV0, rfl, hfz, hnd⟩ := hW
  have hV : DataW.TrodVars enc Tryd.prog W (fun _ => true) Rows.fnExactCommandTextSpec.vars gs q := hV0
  have hA : DataW.TrodAll enc Tryd.prog W 0 (fun _ => true) true Tryd.f3.params.toList args.toList ds p := hA0
  rw [Tryd.params3] at hA hval
  obtain ⟨v0, vs0, d0, ds0, p0, q0, hargs0, rfl, rfl, h0, r0⟩ := trodAll_cons hA
  obtain ⟨rfl, rfl, rfl⟩ := trodAll_nil r0
  obtain rfl : args = #[v0] := by cases args; simp_all
  have k0 := h0
  have lt0 : ∀ x ∈ p0, x.block < W.heap.size := by obtain ⟨m, hm⟩ := k0; exact DataW.trod_lt m _ _ _ hm
  obtain ⟨a0, rfl, hf0⟩ := open_command (hval 0 23 v0 rfl rfl) h0
  clear hA0 hV0
  obtain ⟨rfl, rfl⟩ := trodVars_none hV
  refine (walk a0 hf0 W ).mono fun e W' ⟨he, bel⟩ => ?_
  subst he
  exact ⟨_, rfl, _, _, _, [], _, [], hW', trodAll_mk1 (shut_bool Tryd.underlying4 _), trodAll_cons_mk (Below.trod laidOut (by kernel_rfl) (of_decide_eq_true (by kernel_rfl)) k0 bel lt0) (trodAll_mk0), rfl, bel.frame _, fun h => by cases h⟩

def put (cs : Array Value) : Obj → Obj
  | .cells _ t frozen => .cells cs t frozen
  | o => o

/-- a world for the witness: the tables hold what their initialisers lay -/
def laidWorld (w : World) : World := { w with heap := (w.heap.modify 0 (put #[.iface 98 (.pointer (some ⟨6, 0, none⟩))])) }
theorem laid_met (os : Os) : laidMet Tryd.prog Rows.fnExactCommandTextRow.laid ((laidWorld (World.holding Tryd.prog os ⟨#[.cells #[.string { data := #[98, 121, 116, 101, 115, 46, 66, 117, 102, 102, 101, 114, 58, 32, 116, 111, 111, 32, 108, 97, 114, 103, 101] }] 114], #[], []⟩)).forCall (fun _ _ => 0) ⟨#[], #[.agg #[.int .i64 0, .int .i64 0, .int .i64 0, .string ByteArray.empty, .string ByteArray.empty, .int .i64 0]], []⟩).memory :=
  laidMet_of_run' 8 (by kernel_rfl) (by kernel_rfl)
theorem reads (os : Os) {H : Type} (enc : TypeId × Value → H) : ∃ places, DataW.whole enc Tryd.prog ((laidWorld (World.holding Tryd.prog os ⟨#[.cells #[.string { data := #[98, 121, 116, 101, 115, 46, 66, 117, 102, 102, 101, 114, 58, 32, 116, 111, 111, 32, 108, 97, 114, 103, 101] }] 114], #[], []⟩)).forCall (fun _ _ => 0) ⟨#[], #[.agg #[.int .i64 0, .int .i64 0, .int .i64 0, .string ByteArray.empty, .string ByteArray.empty, .int .i64 0]], []⟩).memory Tryd.f3.params.toList Rows.fnExactCommandTextSpec.vars false #[Value.agg #[.int .i64 0, .int .i64 0, .int .i64 0, .string ByteArray.empty, .string ByteArray.empty, .int .i64 0]].toList 8 = some ([.agg [.lit (.int .i64 0), .lit (.int .i64 0), .lit (.int .i64 0), .lit (.string []), .lit (.string []), .lit (.int .i64 0)]], [], places) :=
  ⟨[], by kernel_rfl⟩

set_option maxRecDepth 1000000 in
theorem lifted (os : Os) (started : os.Started) (H : Type) (enc : TypeId × Value → H) (F : Stop.Interp) :
    ReturnsInHanded {} Tryd.checked os 3 .any ((OpenSpec.ofChange Rows.fnExactCommandTextSpec).preRow enc Tryd.prog Tryd.f3 Rows.fnExactCommandTextRow.domain false Rows.fnExactCommandTextRow.laid) (((OpenSpec.ofChange Rows.fnExactCommandTextSpec).at F).post enc Tryd.prog Tryd.f3 false true false false) := by
  obtain ⟨places, hx⟩ := reads os enc
  refine returnsInHanded_of_row (C := Tryd.checked) (s := OpenSpec.ofChange Rows.fnExactCommandTextSpec) own started (by kernel_rfl) Tryd.func3
    (witness_row_at (enc := enc) (C := Tryd.checked) false (laidWorld (World.holding Tryd.prog os ⟨#[.cells #[.string { data := #[98, 121, 116, 101, 115, 46, 66, 117, 102, 102, 101, 114, 58, 32, 116, 111, 111, 32, 108, 97, 114, 103, 101] }] 114], #[], []⟩)) #[.agg #[.int .i64 0, .int .i64 0, .int .i64 0, .string ByteArray.empty, .string ByteArray.empty, .int .i64 0]] rfl (by kernel_rfl) (by kernel_rfl) (by kernel_rfl)
      (OpenSpec.preRow_of_cond 8 hx (by kernel_rfl) (fun k hk => by cases hk) (by kernel_rfl) (laid_met os))) ?_
  intro W base args ds gs before hval hW _ _ _ hL _ _
  exact contract H enc W base args ds gs before hval hW hL

theorem said : Rows.FnExactCommandTextSaid :=
  OpenClaim.holds_of_cond 3 Tryd.f3 rfl rfl rfl rfl rfl rfl rfl ⟨rfl, rfl, rfl, rfl, rfl⟩ rfl rfl rfl rfl rfl (by kernel_rfl) Tryd.func3 (by kernel_rfl)
    (of_decide_eq_true (by kernel_rfl)) (by unfold Func.isWrapper; first | (rw [if_pos (by decide +kernel)]; kernel_rfl) | (rw [if_neg (by decide +kernel)]; exact ⟨rfl, rfl⟩))
    (fun os started H enc _ F => by rw [OpenClaim.pre_eq_preRow]; exact lifted os started H enc F)

theorem plain (f : FuncId) (fn : Func) (hf : Tryd.pinned.checked.prog.funcNamed "loop.example/g00232/laws.FnExactCommandText" = some f) (hfn : Tryd.pinned.checked.prog.funcs[f]? = some fn) :
    false = Tryd.pinned.checked.prog.looks [] ∧ ∀ (j : Nat) t, fn.params[j]? = some t → Tryd.pinned.checked.prog.wantsStandIn t = false := by
  obtain rfl : f = 3 := Option.some.inj ((show Tryd.prog.funcNamed "loop.example/g00232/laws.FnExactCommandText" = some 3 by kernel_rfl).symm.trans hf) |>.symm
  obtain rfl : fn = Tryd.f3 := (Option.some.inj (Tryd.func3.symm.trans hfn)).symm
  refine ⟨by kernel_rfl, fun j t ht => ?_⟩
  rw [Tryd.params3] at ht
  obtain rfl : t = 23 := by simpa using Array.mem_of_getElem? ht
  exact (show Tryd.prog.wantsStandIn 23 = false by kernel_rfl)

theorem card : Rows.FnExactCommandTextCardSaid :=
  Claim7.holds_tied_plain_at .later [] _ _ _ _ said (fun _ h => by cases h) (by kernel_rfl) (fun _ h => by cases h) fnExactCommandText_row_tie rfl ⟨rfl, rfl⟩ (by kernel_rfl) rfl plain (by kernel_rfl)
end Go.Proofs.YtdgohbhffjinmaaDoor.fnExactCommandText
