/-
  For every text, laws.FnExactReadCell returns true: impl.ReadCell and spec.ReadCell answer alike; nothing that was in memory is written.
-/
import Derived.Test.YtneociicjidcnaaDoorCards
import Derived.Test.YtneociicjidcnaaDoorTie
import Derived.Test.YtneociicjidcnaaDoorEqOneCell
import Derived.Test.YtneociicjidcnaaDoorReadCellS
import Derived.Test.YtneociicjidcnaaDoorReadCellI
import Derived.WalkSmall
import Derived.WalkKit
import Derived.ProofKit
import Derived.OpenShut
import Derived.OpenVars
import Derived.Deep.DeepHandedRow
import Derived.Lib.LaidTab
import Derived.Stop.LaidErr
namespace Go.Proofs.YtneociicjidcnaaDoor.fnExactReadCell
open Go.ChangeShapes Go.WideShapes Go.ChangeAt Go.ChangeMaps Go.RowKit

set_option maxRecDepth 1000000 in
set_option maxHeartbeats 1000000 in
theorem walk (s : ByteArray) (hs : s.size ≤ maxLen) (w : World) (ht : Steps w) :
    Calls Tryd.prog 5 #[.string s] w fun e w' => e = .returned (.bool true) ∧ Below w.heap.size w w' := by
  unfold maxLen at hs
  have HT := hid ht
  clear ht
  by_cases hg : 1048576 < s.size
  · have hg' : (1048576 : Int) < (s.size : Int) := by omega
    go_enter Tryd.func5, Tryd.ntmps5
    go_wp2
    go_ret
    exact ⟨rfl, Below.refl _ _⟩
  have hsl : s.size ≤ 1048576 := by omega
  have hg' : ¬ (1048576 : Int) < (s.size : Int) := by omega
  obtain ⟨f, hf⟩ : ∃ f, cellOf (s.extract 0 (s.size - 4)) = f := ⟨_, rfl⟩
  have CS := hid (specReadCell_any s hsl)
  have CI := hid (implReadCell_any s hsl)
  rw [hf] at CS CI
  clear hf hs
  go_enter Tryd.func5, Tryd.ntmps5
  go_wp2_with fail
  refine (CS.out _).mono ?_
  rintro e w1 ⟨hor, b1⟩
  obtain ⟨r, ok, hr, hc⟩ : ∃ (r : CellD) (ok : Bool), e = .returned (.tuple #[.agg #[.int .i64 r.dst, .int .i64 r.src, .int .i64 r.kd, .string r.body], .bool ok]) ∧ ((CellIn s ∧ r = f ∧ ok = true) ∨ (¬ CellIn s ∧ r = cellZero ∧ ok = false)) := by
    rcases hor with ⟨h, rfl⟩ | ⟨h, rfl⟩
    · exact ⟨f, true, rfl, Or.inl ⟨h, rfl, rfl⟩⟩
    · exact ⟨cellZero, false, rfl, Or.inr ⟨h, rfl, rfl⟩⟩
  subst hr
  have HC := hid hc
  have B1 := hid (below_via b1 (below_more (Below.refl w1.heap.size w1) (.cells #[.int .i64 r.dst, .int .i64 r.src, .int .i64 r.kd, .string r.body] 25)))
  have hx1 : BlockIs (w1.alloc (.cells #[.int .i64 r.dst, .int .i64 r.src, .int .i64 r.kd, .string r.body] 25)) w1.heap.size 25 [.int .i64 r.dst, .int .i64 r.src, .int .i64 r.kd, .string r.body] := heap_alloc_new w1 _
  have X1 := hid hx1
  clear b1 hx1 hc hor CS
  go_wp2_with fail
  refine (CI.out _ (steps_on HT.out B1.out)).mono ?_
  rintro e w2 ⟨hor, b2⟩
  have hr : e = .returned (.tuple #[.agg #[.int .i64 r.dst, .int .i64 r.src, .int .i64 r.kd, .string r.body], .bool ok]) := by
    rcases HC.out with ⟨h, rfl, rfl⟩ | ⟨h, rfl, rfl⟩ <;> rcases hor with ⟨h', rfl⟩ | ⟨h', rfl⟩
    · rfl
    · exact absurd h h'
    · exact absurd h' h
    · rfl
  subst hr
  have b3 := below_via b2 (below_more (Below.refl w2.heap.size w2) (.cells #[.int .i64 r.dst, .int .i64 r.src, .int .i64 r.kd, .string r.body] 25))
  have hx2 : BlockIs (w2.alloc (.cells #[.int .i64 r.dst, .int .i64 r.src, .int .i64 r.kd, .string r.body] 25)) w2.heap.size 25 [.int .i64 r.dst, .int .i64 r.src, .int .i64 r.kd, .string r.body] := heap_alloc_new w2 _
  have hx1 := X1.out.on b3 X1.out.lt
  have B3 := hid (below_via B1.out b3)
  have p0 := hx1.cell (j := 0) rfl
  have p1 := hx1.cell (j := 1) rfl
  have p2 := hx1.cell (j := 2) rfl
  have p3 := hx1.cell (j := 3) rfl
  have CE := hid (fun w => eqCell_same r w)
  clear b2 b3 hx1 hx2 X1 B1 hor CI HC
  go_wp2_with fail
  refine (CE.out _).mono ?_
  rintro e w4 ⟨rfl, b4⟩
  have B4 := hid (below_via B3.out b4)
  clear b4 p0 p1 p2 p3
  cases ok
  all_goals
    go_wp2
    go_ret
    exact ⟨rfl, B4.out⟩

theorem own : ownKnob Tryd.prog.godebug = none := by kernel_rfl
theorem laidOut : laidOutB Tryd.prog = true := by kernel_rfl
theorem rowed : varsRowed Tryd.prog Rows.fnExactReadCellSpec.vars = true := by kernel_rfl
/-- what the row's list gives: what loop.example/g00232/impl.fourSteps holds -/
theorem table0 {W : World} (h : laidMetH Tryd.prog Rows.fnExactReadCellRow.laid W) : Lib.TabIs Tryd.prog W "loop.example/g00232/impl.fourSteps" .u32 stepsTab := by
  have h1 : laidMet Tryd.prog Rows.fnExactReadCellRow.laid W := h
  unfold Rows.fnExactReadCellRow at h1
  have h2 := h1
  rw [show (Rows.laid_loop_example_g00232_impl_fourSteps : DataW Unit) = Lib.tabData .u32 stepsTab by kernel_rfl] at h2
  exact Lib.tabIs_of_head (show Tryd.prog.globalNamed "loop.example/g00232/impl.fourSteps" = some 0 by kernel_rfl) (show (Tryd.prog.globals[0]?).map (·.type) = some 67 by kernel_rfl) Tryd.underlying67 Tryd.underlying58 (show Tryd.prog.cellsOf 58 = 1 by kernel_rfl) (show Tryd.prog.cellsOf 67 = 16 by kernel_rfl) h2
set_option maxRecDepth 1000000 in
theorem contract (H : Type) (enc : TypeId × Value → H) (W : World) (base : Nat) (args : Array Value) (ds gs : List (DataW H)) (before : List MemPlace)
    (hval : ∀ (j : Nat) t v, Tryd.f5.params[j]? = some t → args[j]? = some v → Value.okWide Tryd.prog W .any base t v)
    (hW : DataW.Whole enc Tryd.prog Tryd.f5.params.toList Rows.fnExactReadCellSpec.vars false W args.toList ds gs before) (hL : laidMetH Tryd.prog Rows.fnExactReadCellRow.laid W) :
    Calls Tryd.prog 5 args W fun e W' => ∃ v, e = .returned v ∧ Rows.fnExactReadCellSpec.post enc Tryd.prog Tryd.f5 false true false false W args v W' := by
  have hW' := hW
  obtain ⟨p, q, hA0, hV0, rfl, hfz, hnd⟩ := hW
  have hV : DataW.TrodVars enc Tryd.prog W (fun _ => true) Rows.fnExactReadCellSpec.vars gs q := hV0
  have hA : DataW.TrodAll enc Tryd.prog W 0 (fun _ => true) true Tryd.f5.params.toList args.toList ds p := hA0
  rw [Tryd.params5] at hA hval
  obtain ⟨v0, vs0, d0, ds0, p0, q0, hargs0, rfl, rfl, h0, r0⟩ := trodAll_cons hA
  obtain ⟨rfl, rfl, rfl⟩ := trodAll_nil r0
  obtain rfl : args = #[v0] := by cases args; simp_all
  obtain ⟨a0, rfl, rfl, rfl, w0⟩ := open_string Tryd.underlying9 (hval 0 9 v0 rfl rfl) h0
  clear hA0 hV0
  have hgs : gs.length = 1 := by
    have := hV
    clear hV hW' hL
    match gs, this with
    | [_], _ => rfl
  match gs, hgs, hV, hW' with
  | [g0], _, hV, hW' =>
    refine (walk a0 w0 W (table0 hL)).mono fun e W' ⟨he, bel⟩ => ?_
    subst he
    exact ⟨_, rfl, _, _, _, [], _, _, hW', trodAll_mk1 (shut_bool Tryd.underlying4 _), trodAll_cons_mk (shut_string Tryd.underlying9 w0) (trodAll_mk0), Below.trodVars laidOut bel rowed hV, bel.frame _, fun h => by cases h⟩

def put (cs : Array Value) : Obj → Obj
  | .cells _ t frozen => .cells cs t frozen
  | o => o

/-- a world for the witness: the tables hold what their initialisers lay -/
def laidWorld (w : World) : World := { w with heap := (w.heap.modify 0 (put (([0, 1166650509, 2333301018, 3466261911, 3189058079, 4221339282, 889615109, 1888477064, 3558460437, 2442158232, 1594529039, 444807554, 1779230218, 797264519, 3776954128, 2761298845] : List Int).map (Value.int .u32)).toArray)) }
theorem laid_met (os : Os) : laidMet Tryd.prog Rows.fnExactReadCellRow.laid ((laidWorld (World.holding Tryd.prog os ⟨#[], #[], []⟩)).forCall (fun _ _ => 0) ⟨#[], #[.string ByteArray.empty], []⟩).memory :=
  laidMet_of_run' 8 (by kernel_rfl) (by kernel_rfl)
theorem reads (os : Os) {H : Type} (enc : TypeId × Value → H) : ∃ places, DataW.whole enc Tryd.prog ((laidWorld (World.holding Tryd.prog os ⟨#[], #[], []⟩)).forCall (fun _ _ => 0) ⟨#[], #[.string ByteArray.empty], []⟩).memory Tryd.f5.params.toList Rows.fnExactReadCellSpec.vars false #[Value.string ByteArray.empty].toList 8 = some ([.lit (.string [])], [Rows.laid_loop_example_g00232_impl_fourSteps], places) :=
  ⟨(List.range 16).map (MemPlace.cell 0), by kernel_rfl⟩

set_option maxRecDepth 1000000 in
theorem lifted (os : Os) (started : os.Started) (H : Type) (enc : TypeId × Value → H) (F : Stop.Interp) :
    ReturnsInHanded {} Tryd.checked os 5 .any ((OpenSpec.ofChange Rows.fnExactReadCellSpec).preRow enc Tryd.prog Tryd.f5 Rows.fnExactReadCellRow.domain false Rows.fnExactReadCellRow.laid) (((OpenSpec.ofChange Rows.fnExactReadCellSpec).at F).post enc Tryd.prog Tryd.f5 false true false false) := by
  obtain ⟨places, hx⟩ := reads os enc
  refine returnsInHanded_of_row (C := Tryd.checked) (s := OpenSpec.ofChange Rows.fnExactReadCellSpec) own started (by kernel_rfl) Tryd.func5
    (witness_row_at (enc := enc) (C := Tryd.checked) false (laidWorld (World.holding Tryd.prog os ⟨#[], #[], []⟩)) #[.string ByteArray.empty] rfl (by kernel_rfl) (by kernel_rfl) (by kernel_rfl)
      (OpenSpec.preRow_of_cond 8 hx (by kernel_rfl) (fun k hk => by cases hk) (by kernel_rfl) (laid_met os))) ?_
  intro W base args ds gs before hval hW _ _ _ hL _ _
  exact contract H enc W base args ds gs before hval hW hL

theorem said : Rows.FnExactReadCellSaid :=
  OpenClaim.holds_of_cond 5 Tryd.f5 rfl rfl rfl rfl rfl rfl rfl ⟨rfl, rfl, rfl, rfl, rfl⟩ rfl rfl rfl rfl rfl (by kernel_rfl) Tryd.func5 (by kernel_rfl)
    (of_decide_eq_true (by kernel_rfl)) (by unfold Func.isWrapper; first | (rw [if_pos (by decide +kernel)]; kernel_rfl) | (rw [if_neg (by decide +kernel)]; exact ⟨rfl, rfl⟩))
    (fun os started H enc _ F => by rw [OpenClaim.pre_eq_preRow]; exact lifted os started H enc F)

theorem plain (f : FuncId) (fn : Func) (hf : Tryd.pinned.checked.prog.funcNamed "loop.example/g00232/laws.FnExactReadCell" = some f) (hfn : Tryd.pinned.checked.prog.funcs[f]? = some fn) :
    false = Tryd.pinned.checked.prog.looks [] ∧ ∀ (j : Nat) t, fn.params[j]? = some t → Tryd.pinned.checked.prog.wantsStandIn t = false := by
  obtain rfl : f = 5 := Option.some.inj ((show Tryd.prog.funcNamed "loop.example/g00232/laws.FnExactReadCell" = some 5 by kernel_rfl).symm.trans hf) |>.symm
  obtain rfl : fn = Tryd.f5 := (Option.some.inj (Tryd.func5.symm.trans hfn)).symm
  refine ⟨by kernel_rfl, fun j t ht => ?_⟩
  rw [Tryd.params5] at ht
  obtain rfl : t = 9 := by simpa using Array.mem_of_getElem? ht
  exact (show Tryd.prog.wantsStandIn 9 = false by kernel_rfl)

theorem card : Rows.FnExactReadCellCardSaid :=
  Claim7.holds_tied_plain_at .later [] _ _ _ _ said (fun _ h => by cases h) (by kernel_rfl) (fun _ h => by cases h) fnExactReadCell_row_tie rfl ⟨rfl, rfl⟩ (by kernel_rfl) rfl plain (by kernel_rfl)
end Go.Proofs.YtneociicjidcnaaDoor.fnExactReadCell
