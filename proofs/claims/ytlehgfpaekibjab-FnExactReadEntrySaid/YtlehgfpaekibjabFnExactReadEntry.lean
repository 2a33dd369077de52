/-
  For every text, laws.FnExactReadEntry returns true: impl.ReadEntry and spec.ReadEntry answer alike; nothing that was in memory is written.
-/
import Derived.Test.YtlehgfpaekibjabRows
import Derived.Test.YtlehgfpaekibjabReadEntryS
import Derived.Test.YtlehgfpaekibjabReadEntryI
import Derived.WalkSmall
import Derived.WalkKit
import Derived.ProofKit
import Derived.OpenShut
import Derived.OpenVars
import Derived.Deep.DeepHandedRow
import Derived.Lib.LaidTab
import Derived.Stop.LaidErr
namespace Go.Proofs.Ytlehgfpaekibjab.fnExactReadEntry
open Go.ChangeShapes Go.WideShapes Go.ChangeAt Go.ChangeMaps Go.RowKit

set_option maxRecDepth 1000000 in
theorem eqEntry_same (t k : Int) (s : ByteArray) (w : World) :
    Calls Try.prog 7 #[.agg #[.int .i64 t, .int .i64 k, .string s], .agg #[.int .i64 t, .int .i64 k, .string s]] w fun e w' => e = .returned (.bool true) ∧ Below w.heap.size w w' := by
  go_enter Try.func7, Try.ntmps7
  go_wp2
  go_ret
  exact ⟨rfl, below_more (below_more (Below.refl _ _) _) _⟩

/-- what is answered: a number, an entry, whether -/
theorem ans_parts (o : Option (Nat × EntD)) : ∃ (i t k : Int) (d : ByteArray) (ok : Bool), reAns o = .tuple #[.int .i64 i, .agg #[.int .i64 t, .int .i64 k, .string d], .bool ok] := by
  cases o with
  | none => exact ⟨0, 0, 0, ByteArray.empty, false, rfl⟩
  | some p => exact ⟨p.1, p.2.term, p.2.kind, p.2.data, true, rfl⟩

set_option maxRecDepth 1000000 in
set_option maxHeartbeats 1000000 in
theorem walk (s : ByteArray) (_hs : s.size ≤ maxLen) (w : World) :
    Calls Try.prog 3 #[.string s] w fun e w' => e = .returned (.bool true) ∧ Below w.heap.size w w' := by
  by_cases hbig : (1048576 : Int) < (s.size : Int)
  · go_enter Try.func3, Try.ntmps3
    go_wp2
    go_ret
    exact ⟨rfl, Below.refl _ _⟩
  have hl : s.size ≤ 1048576 := by omega
  have cS' := fun w => specReadEntry_any s hl w
  have cI' := fun w => implReadEntry_any s hl w
  obtain ⟨i, t, k, d, ok, ha⟩ := ans_parts (readEntry s)
  rw [ha] at cS' cI'
  have cS := hid cS'
  have cI := hid cI'
  clear cS' cI' ha
  go_enter Try.func3, Try.ntmps3
  go_wp2_with fail
  refine Calls.mono (cS.out w) ?_
  rintro e w1 ⟨rfl, b1⟩
  have B1 := hid (below_more b1 (.cells #[.int .i64 t, .int .i64 k, .string d] 23))
  have hx : BlockIs (w1.alloc (.cells #[.int .i64 t, .int .i64 k, .string d] 23)) w1.heap.size 23 [.int .i64 t, .int .i64 k, .string d] := heap_alloc_new w1 _
  obtain ⟨W1, hW1⟩ : ∃ W, w1.alloc (.cells #[.int .i64 t, .int .i64 k, .string d] 23) = W := ⟨_, rfl⟩
  rw [hW1] at B1 hx
  have X1 := hid hx
  have HW1 := hid hW1
  clear b1 hx hW1
  go_wp2_with fail
  rw [HW1.out]
  refine Calls.mono (cI.out W1) ?_
  rintro e w2 ⟨rfl, b2⟩
  have X2 := hid ((X1.out.on b2 X1.out.lt).on (below_more (Below.refl _ _) (.cells #[.int .i64 t, .int .i64 k, .string d] 23)) (X1.out.on b2 X1.out.lt).lt)
  have B2 := hid (below_more (below_via B1.out b2) (.cells #[.int .i64 t, .int .i64 k, .string d] 23))
  have hx : BlockIs (w2.alloc (.cells #[.int .i64 t, .int .i64 k, .string d] 23)) w2.heap.size 23 [.int .i64 t, .int .i64 k, .string d] := heap_alloc_new w2 _
  obtain ⟨W2, hW2⟩ : ∃ W, w2.alloc (.cells #[.int .i64 t, .int .i64 k, .string d] 23) = W := ⟨_, rfl⟩
  rw [hW2] at X2 B2 hx
  have HW2 := hid hW2
  have x0 := X2.out.cell (j := 0) rfl
  have x1 := X2.out.cell (j := 1) rfl
  have x2 := X2.out.cell (j := 2) rfl
  have y0 := hx.cell (j := 0) rfl
  have y1 := hx.cell (j := 1) rfl
  have y2 := hx.cell (j := 2) rfl
  clear b2 hx X1 B1 HW1 HW2
  go_wp2_with fail
  refine Calls.mono (eqEntry_same t k d W2) ?_
  rintro e w3 ⟨rfl, b3⟩
  go_wp2
  go_ret
  exact ⟨rfl, below_via B2.out b3⟩

theorem own : ownKnob Try.prog.godebug = none := by kernel_rfl
theorem laidOut : laidOutB Try.prog = true := by kernel_rfl
theorem rowed : varsRowed Try.prog Rows.fnExactReadEntrySpec.vars = true := by kernel_rfl
set_option maxRecDepth 1000000 in
theorem contract (H : Type) (enc : TypeId × Value → H) (W : World) (base : Nat) (args : Array Value) (ds gs : List (DataW H)) (before : List MemPlace)
    (hval : ∀ (j : Nat) t v, Try.f3.params[j]? = some t → args[j]? = some v → Value.okWide Try.prog W .any base t v)
    (hW : DataW.Whole enc Try.prog Try.f3.params.toList Rows.fnExactReadEntrySpec.vars false W args.toList ds gs before) (_hL : laidMetH Try.prog Rows.fnExactReadEntryRow.laid W) :
    Calls Try.prog 3 args W fun e W' => ∃ v, e = .returned v ∧ Rows.fnExactReadEntrySpec.post enc Try.prog Try.f3 false true false false W args v W' := by
  have hW' := hW
  obtain ⟨p, q, hA0, hV0, rfl, hfz, hnd⟩ := hW
  have hV : DataW.TrodVars enc Try.prog W (fun _ => true) Rows.fnExactReadEntrySpec.vars gs q := hV0
  have hA : DataW.TrodAll enc Try.prog W 0 (fun _ => true) true Try.f3.params.toList args.toList ds p := hA0
  rw [Try.params3] at hA hval
  obtain ⟨v0, vs0, d0, ds0, p0, q0, hargs0, rfl, rfl, h0, r0⟩ := trodAll_cons hA
  obtain ⟨rfl, rfl, rfl⟩ := trodAll_nil r0
  obtain rfl : args = #[v0] := by cases args; simp_all
  obtain ⟨a0, rfl, rfl, rfl, w0⟩ := open_string Try.underlying9 (hval 0 9 v0 rfl rfl) h0
  clear hA0 hV0
  obtain ⟨rfl, rfl⟩ := trodVars_none hV
  refine (walk a0 w0 W ).mono fun e W' ⟨he, bel⟩ => ?_
  subst he
  exact ⟨_, rfl, _, _, _, [], _, [], hW', trodAll_mk1 (shut_bool Try.underlying4 _), trodAll_cons_mk (shut_string Try.underlying9 w0) (trodAll_mk0), rfl, bel.frame _, fun h => by cases h⟩

def put (cs : Array Value) : Obj → Obj
  | .cells _ t frozen => .cells cs t frozen
  | o => o

/-- a world for the witness: the tables hold what their initialisers lay -/
def laidWorld (w : World) : World := { w with heap := w.heap }
theorem laid_met (os : Os) : laidMet Try.prog Rows.fnExactReadEntryRow.laid ((laidWorld (World.holding Try.prog os ⟨#[], #[], []⟩)).forCall (fun _ _ => 0) ⟨#[], #[.string ByteArray.empty], []⟩).memory :=
  laidMet_of_run' 8 (by kernel_rfl) (by kernel_rfl)
theorem reads (os : Os) {H : Type} (enc : TypeId × Value → H) : ∃ places, DataW.whole enc Try.prog ((laidWorld (World.holding Try.prog os ⟨#[], #[], []⟩)).forCall (fun _ _ => 0) ⟨#[], #[.string ByteArray.empty], []⟩).memory Try.f3.params.toList Rows.fnExactReadEntrySpec.vars false #[Value.string ByteArray.empty].toList 8 = some ([.lit (.string [])], [], places) :=
  ⟨[], by kernel_rfl⟩

set_option maxRecDepth 1000000 in
theorem lifted (os : Os) (started : os.Started) (H : Type) (enc : TypeId × Value → H) (F : Stop.Interp) :
    ReturnsInHanded {} Try.checked os 3 .any ((OpenSpec.ofChange Rows.fnExactReadEntrySpec).preRow enc Try.prog Try.f3 Rows.fnExactReadEntryRow.domain false Rows.fnExactReadEntryRow.laid) (((OpenSpec.ofChange Rows.fnExactReadEntrySpec).at F).post enc Try.prog Try.f3 false true false false) := by
  obtain ⟨places, hx⟩ := reads os enc
  refine returnsInHanded_of_row (C := Try.checked) (s := OpenSpec.ofChange Rows.fnExactReadEntrySpec) own started (by kernel_rfl) Try.func3
    (witness_row_at (enc := enc) (C := Try.checked) false (laidWorld (World.holding Try.prog os ⟨#[], #[], []⟩)) #[.string ByteArray.empty] rfl (by kernel_rfl) (by kernel_rfl) (by kernel_rfl)
      (OpenSpec.preRow_of_cond 8 hx (by kernel_rfl) (fun k hk => by cases hk) (by kernel_rfl) (laid_met os))) ?_
  intro W base args ds gs before hval hW _ _ _ hL _ _
  exact contract H enc W base args ds gs before hval hW hL

theorem said : Rows.FnExactReadEntrySaid :=
  OpenClaim.holds_of_cond 3 Try.f3 rfl rfl rfl rfl rfl rfl rfl ⟨rfl, rfl, rfl, rfl, rfl⟩ rfl rfl rfl rfl rfl (by kernel_rfl) Try.func3 (by kernel_rfl)
    (of_decide_eq_true (by kernel_rfl)) (by unfold Func.isWrapper; first | (rw [if_pos (by decide +kernel)]; kernel_rfl) | (rw [if_neg (by decide +kernel)]; exact ⟨rfl, rfl⟩))
    (fun os started H enc _ F => by rw [OpenClaim.pre_eq_preRow]; exact lifted os started H enc F)

end Go.Proofs.Ytlehgfpaekibjab.fnExactReadEntry
