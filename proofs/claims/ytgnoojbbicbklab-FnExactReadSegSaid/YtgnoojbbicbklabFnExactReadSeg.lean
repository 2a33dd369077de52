/-
  For every text, laws.FnExactReadSeg returns true: impl.ReadSeg and spec.ReadSeg answer alike; nothing that was in memory is written.
-/
import Derived.Test.YtgnoojbbicbklabRows
import Derived.Test.YtgnoojbbicbklabEqOneSeg
import Derived.Test.YtgnoojbbicbklabReadSegS
import Derived.Test.YtgnoojbbicbklabReadSegI
import Derived.WalkSmall
import Derived.WalkKit
import Derived.ProofKit
import Derived.OpenShut
import Derived.OpenVars
import Derived.Deep.DeepHandedRow
import Derived.Lib.LaidTab
import Derived.Stop.LaidErr
namespace Go.Proofs.Ytgnoojbbicbklab.fnExactReadSeg
open Go.ChangeShapes Go.WideShapes Go.ChangeAt Go.ChangeMaps Go.RowKit

set_option maxRecDepth 1000000 in
set_option maxHeartbeats 1000000 in
theorem walk (s : ByteArray) (hs : s.size ≤ maxLen) (w : World) :
    Calls Try.prog 3 #[.string s] w fun e w' => e = .returned (.bool true) ∧ Below w.heap.size w w' := by
  unfold maxLen at hs
  by_cases hg : 1048576 < s.size
  · have hg' : (1048576 : Int) < (s.size : Int) := by omega
    go_enter Try.func3, Try.ntmps3
    go_wp2
    go_ret
    exact ⟨rfl, Below.refl _ _⟩
  have hsl : s.size ≤ 1048576 := by omega
  have hg' : ¬ (1048576 : Int) < (s.size : Int) := by omega
  obtain ⟨f, hf⟩ : ∃ f, segOf s = f := ⟨_, rfl⟩
  have CS := hid (specReadSeg_any s hsl)
  have CI := hid (implReadSeg_any s hsl)
  rw [hf] at CS CI
  clear hf hs
  go_enter Try.func3, Try.ntmps3
  go_wp2_with fail
  refine (CS.out _).mono ?_
  rintro e w1 ⟨hor, b1⟩
  obtain ⟨r, ok, hr, hc⟩ : ∃ (r : SegD) (ok : Bool), e = .returned (.tuple #[.agg #[.int .i64 r.num, .int .i64 r.ack, .int .i64 r.flags, .string r.body], .bool ok]) ∧ ((SegIn s ∧ r = f ∧ ok = true) ∨ (¬ SegIn s ∧ r = segZero ∧ ok = false)) := by
    rcases hor with ⟨h, rfl⟩ | ⟨h, rfl⟩
    · exact ⟨f, true, rfl, Or.inl ⟨h, rfl, rfl⟩⟩
    · exact ⟨segZero, false, rfl, Or.inr ⟨h, rfl, rfl⟩⟩
  subst hr
  have HC := hid hc
  have B1 := hid (below_via b1 (below_more (Below.refl w1.heap.size w1) (.cells #[.int .i64 r.num, .int .i64 r.ack, .int .i64 r.flags, .string r.body] 23)))
  have hx1 : BlockIs (w1.alloc (.cells #[.int .i64 r.num, .int .i64 r.ack, .int .i64 r.flags, .string r.body] 23)) w1.heap.size 23 [.int .i64 r.num, .int .i64 r.ack, .int .i64 r.flags, .string r.body] := heap_alloc_new w1 _
  have X1 := hid hx1
  clear b1 hx1 hc hor CS
  go_wp2_with fail
  refine (CI.out _).mono ?_
  rintro e w2 ⟨hor, b2⟩
  have hr : e = .returned (.tuple #[.agg #[.int .i64 r.num, .int .i64 r.ack, .int .i64 r.flags, .string r.body], .bool ok]) := by
    rcases HC.out with ⟨h, rfl, rfl⟩ | ⟨h, rfl, rfl⟩ <;> rcases hor with ⟨h', rfl⟩ | ⟨h', rfl⟩
    · rfl
    · exact absurd h h'
    · exact absurd h' h
    · rfl
  subst hr
  have b3 := below_via b2 (below_more (Below.refl w2.heap.size w2) (.cells #[.int .i64 r.num, .int .i64 r.ack, .int .i64 r.flags, .string r.body] 23))
  have hx2 : BlockIs (w2.alloc (.cells #[.int .i64 r.num, .int .i64 r.ack, .int .i64 r.flags, .string r.body] 23)) w2.heap.size 23 [.int .i64 r.num, .int .i64 r.ack, .int .i64 r.flags, .string r.body] := heap_alloc_new w2 _
  have hx1 := X1.out.on b3 X1.out.lt
  have B3 := hid (below_via B1.out b3)
  have p0 := hx1.cell (j := 0) rfl
  have p1 := hx1.cell (j := 1) rfl
  have p2 := hx1.cell (j := 2) rfl
  have p3 := hx1.cell (j := 3) rfl
  have CE := hid (fun w => eqSeg_same r w)
  clear b2 b3 hx1 hx2 X1 B1 hor CI HC
  go_wp2_with fail
  refine (CE.out _).mono ?_
  rintro e w4 ⟨rfl, b4⟩
  have B4 := hid (below_via B3.out b4)
  clear b4 p0 p1 p2 p3
  cases ok
  all_goals
    go_wp2
    go_ret
    exact ⟨rfl, B4.out⟩

theorem own : ownKnob Try.prog.godebug = none := by kernel_rfl
theorem laidOut : laidOutB Try.prog = true := by kernel_rfl
theorem rowed : varsRowed Try.prog Rows.fnExactReadSegSpec.vars = true := by kernel_rfl
set_option maxRecDepth 1000000 in
theorem contract (H : Type) (enc : TypeId × Value → H) (W : World) (base : Nat) (args : Array Value) (ds gs : List (DataW H)) (before : List MemPlace)
    (hval : ∀ (j : Nat) t v, Try.f3.params[j]? = some t → args[j]? = some v → Value.okWide Try.prog W .any base t v)
    (hW : DataW.Whole enc Try.prog Try.f3.params.toList Rows.fnExactReadSegSpec.vars false W args.toList ds gs before) (_hL : laidMetH Try.prog Rows.fnExactReadSegRow.laid W) :
    Calls Try.prog 3 args W fun e W' => ∃ v, e = .returned v ∧ Rows.fnExactReadSegSpec.post enc Try.prog Try.f3 false true false false W args v W' := by
  have hW' := hW
  obtain ⟨p, q, hA0, hV0, rfl, hfz, hnd⟩ := hW
  have hV : DataW.TrodVars enc Try.prog W (fun _ => true) Rows.fnExactReadSegSpec.vars gs q := hV0
  have hA : DataW.TrodAll enc Try.prog W 0 (fun _ => true) true Try.f3.params.toList args.toList ds p := hA0
  rw [Try.params3] at hA hval
  obtain ⟨v0, vs0, d0, ds0, p0, q0, hargs0, rfl, rfl, h0, r0⟩ := trodAll_cons hA
  obtain ⟨rfl, rfl, rfl⟩ := trodAll_nil r0
  obtain rfl : args = #[v0] := by cases args; simp_all
  obtain ⟨a0, rfl, rfl, rfl, w0⟩ := open_string Try.underlying9 (hval 0 9 v0 rfl rfl) h0
  clear hA0 hV0
  obtain ⟨rfl, rfl⟩ := trodVars_none hV
  refine (walk a0 w0 W ).mono fun e W' ⟨he, bel⟩ => ?_
  subst he
  exact ⟨_, rfl, _, _, _, [], _, [], hW', trodAll_mk1 (shut_bool Try.underlying4 _), trodAll_cons_mk (shut_string Try.underlying9 w0) (trodAll_mk0), rfl, bel.frame _, fun h => by cases h⟩

def put (cs : Array Value) : Obj → Obj
  | .cells _ t frozen => .cells cs t frozen
  | o => o

/-- a world for the witness: the tables hold what their initialisers lay -/
def laidWorld (w : World) : World := { w with heap := w.heap }
theorem laid_met (os : Os) : laidMet Try.prog Rows.fnExactReadSegRow.laid ((laidWorld (World.holding Try.prog os ⟨#[], #[], []⟩)).forCall (fun _ _ => 0) ⟨#[], #[.string ByteArray.empty], []⟩).memory :=
  laidMet_of_run' 8 (by kernel_rfl) (by kernel_rfl)
theorem reads (os : Os) {H : Type} (enc : TypeId × Value → H) : ∃ places, DataW.whole enc Try.prog ((laidWorld (World.holding Try.prog os ⟨#[], #[], []⟩)).forCall (fun _ _ => 0) ⟨#[], #[.string ByteArray.empty], []⟩).memory Try.f3.params.toList Rows.fnExactReadSegSpec.vars false #[Value.string ByteArray.empty].toList 8 = some ([.lit (.string [])], [], places) :=
  ⟨[], by kernel_rfl⟩

set_option maxRecDepth 1000000 in
theorem lifted (os : Os) (started : os.Started) (H : Type) (enc : TypeId × Value → H) (F : Stop.Interp) :
    ReturnsInHanded {} Try.checked os 3 .any ((OpenSpec.ofChange Rows.fnExactReadSegSpec).preRow enc Try.prog Try.f3 Rows.fnExactReadSegRow.domain false Rows.fnExactReadSegRow.laid) (((OpenSpec.ofChange Rows.fnExactReadSegSpec).at F).post enc Try.prog Try.f3 false true false false) := by
  obtain ⟨places, hx⟩ := reads os enc
  refine returnsInHanded_of_row (C := Try.checked) (s := OpenSpec.ofChange Rows.fnExactReadSegSpec) own started (by kernel_rfl) Try.func3
    (witness_row_at (enc := enc) (C := Try.checked) false (laidWorld (World.holding Try.prog os ⟨#[], #[], []⟩)) #[.string ByteArray.empty] rfl (by kernel_rfl) (by kernel_rfl) (by kernel_rfl)
      (OpenSpec.preRow_of_cond 8 hx (by kernel_rfl) (fun k hk => by cases hk) (by kernel_rfl) (laid_met os))) ?_
  intro W base args ds gs before hval hW _ _ _ hL _ _
  exact contract H enc W base args ds gs before hval hW hL

theorem said : Rows.FnExactReadSegSaid :=
  OpenClaim.holds_of_cond 3 Try.f3 rfl rfl rfl rfl rfl rfl rfl ⟨rfl, rfl, rfl, rfl, rfl⟩ rfl rfl rfl rfl rfl (by kernel_rfl) Try.func3 (by kernel_rfl)
    (of_decide_eq_true (by kernel_rfl)) (by unfold Func.isWrapper; first | (rw [if_pos (by decide +kernel)]; kernel_rfl) | (rw [if_neg (by decide +kernel)]; exact ⟨rfl, rfl⟩))
    (fun os started H enc _ F => by rw [OpenClaim.pre_eq_preRow]; exact lifted os started H enc F)

end Go.Proofs.Ytgnoojbbicbklab.fnExactReadSeg
