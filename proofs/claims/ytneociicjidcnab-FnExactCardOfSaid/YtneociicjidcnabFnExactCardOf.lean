/-
  For every list and number, laws.FnExactCardOf returns true: impl.CardOf and spec.CardOf answer alike, no argument is written; nothing that was in memory is written.
-/
import Derived.Test.YtneociicjidcnabRows
import Derived.Test.YtneociicjidcnabOpenKnownS
import Derived.Test.YtneociicjidcnabSzKnown
import Derived.Test.YtneociicjidcnabToKnown
import Derived.Test.YtneociicjidcnabEqKnown
import Derived.Test.YtneociicjidcnabCardOfS
import Derived.Test.YtneociicjidcnabCardOfI
import Derived.WalkSmall
import Derived.WalkKit
import Derived.ProofKit
import Derived.OpenShut
import Derived.OpenVars
import Derived.Deep.DeepHandedRow
import Derived.Lib.LaidTab
import Derived.Stop.LaidErr
namespace Go.Proofs.Ytneociicjidcnab.fnExactCardOf
open Go.ChangeShapes Go.WideShapes Go.ChangeAt Go.ChangeMaps Go.RowKit

set_option maxRecDepth 1000000 in
set_option maxHeartbeats 1000000 in
theorem walk (ao : Option Addr) (l : List KnownD) (cap : Nat) (hl : l.length ≤ maxLen) (_hf : KnownsFit l) (a : Int) (_wa : (Lit.int .i64 a).wf = true) (w : World) (ha : KnownsAt w ao l) :
    Calls Try.prog 3 #[.slice ao l.length cap, .int .i64 a] w fun e w' => e = .returned (.bool true) ∧ Below w.heap.size w w' := by
  have HA := hid ha
  clear ha
  go_enter Try.func3, Try.ntmps3
  go_wp2_with fail
  refine (szKnownS_any ao l cap 1048576 (by omega) (by omega) (by unfold maxLen at hl; omega) w).mono ?_
  rintro e w1 ⟨hor, hw⟩
  rw [hw]
  clear hw w1
  rcases hor with ⟨hneg, rfl⟩ | ⟨hnn, rfl⟩
  · go_wp2
    go_ret
    exact ⟨rfl, Below.refl _ _⟩
  have hl2 := (knownsSmall hnn).1
  clear hl hnn
  have hpos : ¬ (1048576 : Int) - (l.length : Int) < 0 := by omega
  go_wp2_with fail
  refine (toKnownS_any ao l cap hl2 _ HA.out).mono ?_
  rintro e w2 ⟨rfl, k2, b2⟩
  have B2 := hid b2
  have F2 := hid (knownsAt_of (l := l) (r := []) (by rw [List.append_nil]; exact k2))
  clear b2 k2
  go_wp2_with fail
  refine (specCardOf_any _ l l.length a hl2 _ F2.out).mono ?_
  rintro e w3 ⟨rfl, b3⟩
  have B3 := hid (below_via B2.out b3)
  clear b3 F2 B2
  generalize hr : cardOf l a = r
  have HR := hid hr
  clear hr
  go_wp2_with fail
  refine (toKnownS_any ao l cap hl2 _ (HA.out.on B3.out)).mono ?_
  rintro e w4 ⟨rfl, k4, b4⟩
  have B4 := hid (below_via B3.out b4)
  have F4 := hid (knownsAt_of (l := l) (r := []) (by rw [List.append_nil]; exact k4))
  clear b4 k4
  go_wp2_with fail
  refine (implCardOf_any _ l l.length a hl2 _ F4.out).mono ?_
  rintro e w6 ⟨rfl, b6⟩
  rw [HR.out]
  have B6 := hid (below_via B4.out b6)
  have F6 := hid (F4.out.on b6)
  have hle : l.length ≤ 140737488355328 := by omega
  clear b6 B4 F4 B3
  go_wp2_with fail
  refine (toKnownS_any ao l cap hl2 _ (HA.out.on B6.out)).mono ?_
  rintro e w7 ⟨rfl, k7, b7⟩
  have B7 := hid (below_via B6.out b7)
  have F7 := hid (knownsAt_of (l := l) (r := []) (by rw [List.append_nil]; exact k7))
  have G7 := hid (F6.out.on b7)
  clear b7 k7 F6 B6
  go_wp2_with fail
  refine (eqKnownS_same _ _ l _ _ hle _ G7.out F7.out).mono ?_
  rintro e w8 ⟨rfl, b8⟩
  have B8 := hid (below_via B7.out b8)
  clear b8 B7
  go_wp2
  go_ret
  exact ⟨rfl, B8.out⟩

theorem own : ownKnob Try.prog.godebug = none := by kernel_rfl
theorem laidOut : laidOutB Try.prog = true := by kernel_rfl
theorem rowed : varsRowed Try.prog Rows.fnExactCardOfSpec.vars = true := by kernel_rfl
set_option maxRecDepth 1000000 in
theorem contract (H : Type) (enc : TypeId × Value → H) (W : World) (base : Nat) (args : Array Value) (ds gs : List (DataW H)) (before : List MemPlace)
    (hval : ∀ (j : Nat) t v, Try.f3.params[j]? = some t → args[j]? = some v → Value.okWide Try.prog W .any base t v)
    (hW : DataW.Whole enc Try.prog Try.f3.params.toList Rows.fnExactCardOfSpec.vars false W args.toList ds gs before) (_hL : laidMetH Try.prog Rows.fnExactCardOfRow.laid W) :
    Calls Try.prog 3 args W fun e W' => ∃ v, e = .returned v ∧ Rows.fnExactCardOfSpec.post enc Try.prog Try.f3 false true false false W args v W' := by
  have hW' := hW
  obtain ⟨p, q, hA0, hV0, rfl, hfz, hnd⟩ := hW
  have hV : DataW.TrodVars enc Try.prog W (fun _ => true) Rows.fnExactCardOfSpec.vars gs q := hV0
  have hA : DataW.TrodAll enc Try.prog W 0 (fun _ => true) true Try.f3.params.toList args.toList ds p := hA0
  rw [Try.params3] at hA hval
  obtain ⟨v0, vs0, d0, ds0, p0, q0, hargs0, rfl, rfl, h0, r0⟩ := trodAll_cons hA
  obtain ⟨v1, vs1, d1, ds1, p1, q1, hargs1, rfl, rfl, h1, r1⟩ := trodAll_cons r0
  subst hargs1
  obtain ⟨rfl, rfl, rfl⟩ := trodAll_nil r1
  obtain rfl : args = #[v0, v1] := by cases args; simp_all
  have k0 := h0
  have lt0 : ∀ x ∈ p0, x.block < W.heap.size := by obtain ⟨m, hm⟩ := k0; exact DataW.trod_lt m _ _ _ hm
  obtain ⟨a0, l0, cap0, rfl, hc0, hm0, hat0, hfit0⟩ := open_knownS (hval 0 22 v0 rfl rfl) h0
  obtain ⟨a1, rfl, rfl, rfl, w1⟩ := open_int Try.underlying3 (hval 1 3 v1 rfl rfl) h1
  clear hA0 hV0
  obtain ⟨rfl, rfl⟩ := trodVars_none hV
  refine (walk a0 l0 cap0 (Nat.le_trans hc0 hm0) hfit0 a1 w1 W hat0).mono fun e W' ⟨he, bel⟩ => ?_
  subst he
  exact ⟨_, rfl, _, _, _, [], _, [], hW', trodAll_mk1 (shut_bool Try.underlying4 _), trodAll_cons_mk (Below.trod laidOut (by kernel_rfl) (of_decide_eq_true (by kernel_rfl)) k0 bel lt0) (trodAll_cons_mk (shut_int Try.underlying3 w1) (trodAll_mk0)), rfl, bel.frame _, fun h => by cases h⟩

def put (cs : Array Value) : Obj → Obj
  | .cells _ t frozen => .cells cs t frozen
  | o => o

/-- a world for the witness: the tables hold what their initialisers lay -/
def laidWorld (w : World) : World := { w with heap := w.heap }
theorem laid_met (os : Os) : laidMet Try.prog Rows.fnExactCardOfRow.laid ((laidWorld (World.holding Try.prog os ⟨#[], #[], []⟩)).forCall (fun _ _ => 0) ⟨#[], #[.slice none 0 0, .int .i64 0], []⟩).memory :=
  laidMet_of_run' 8 (by kernel_rfl) (by kernel_rfl)
theorem reads (os : Os) {H : Type} (enc : TypeId × Value → H) : ∃ places, DataW.whole enc Try.prog ((laidWorld (World.holding Try.prog os ⟨#[], #[], []⟩)).forCall (fun _ _ => 0) ⟨#[], #[.slice none 0 0, .int .i64 0], []⟩).memory Try.f3.params.toList Rows.fnExactCardOfSpec.vars false #[Value.slice none 0 0, .int .i64 0].toList 8 = some ([.nil, .lit (.int .i64 0)], [], places) :=
  ⟨[], by kernel_rfl⟩

set_option maxRecDepth 1000000 in
theorem lifted (os : Os) (started : os.Started) (H : Type) (enc : TypeId × Value → H) (F : Stop.Interp) :
    ReturnsInHanded {} Try.checked os 3 .any ((OpenSpec.ofChange Rows.fnExactCardOfSpec).preRow enc Try.prog Try.f3 Rows.fnExactCardOfRow.domain false Rows.fnExactCardOfRow.laid) (((OpenSpec.ofChange Rows.fnExactCardOfSpec).at F).post enc Try.prog Try.f3 false true false false) := by
  obtain ⟨places, hx⟩ := reads os enc
  refine returnsInHanded_of_row (C := Try.checked) (s := OpenSpec.ofChange Rows.fnExactCardOfSpec) own started (by kernel_rfl) Try.func3
    (witness_row_at (enc := enc) (C := Try.checked) false (laidWorld (World.holding Try.prog os ⟨#[], #[], []⟩)) #[.slice none 0 0, .int .i64 0] rfl (by kernel_rfl) (by kernel_rfl) (by kernel_rfl)
      (OpenSpec.preRow_of_cond 8 hx (by kernel_rfl) (fun k hk => by cases hk) (by kernel_rfl) (laid_met os))) ?_
  intro W base args ds gs before hval hW _ _ _ hL _ _
  exact contract H enc W base args ds gs before hval hW hL

theorem said : Rows.FnExactCardOfSaid :=
  OpenClaim.holds_of_cond 3 Try.f3 rfl rfl rfl rfl rfl rfl rfl ⟨rfl, rfl, rfl, rfl, rfl⟩ rfl rfl rfl rfl rfl (by kernel_rfl) Try.func3 (by kernel_rfl)
    (of_decide_eq_true (by kernel_rfl)) (by unfold Func.isWrapper; first | (rw [if_pos (by decide +kernel)]; kernel_rfl) | (rw [if_neg (by decide +kernel)]; exact ⟨rfl, rfl⟩))
    (fun os started H enc _ F => by rw [OpenClaim.pre_eq_preRow]; exact lifted os started H enc F)

end Go.Proofs.Ytneociicjidcnab.fnExactCardOf
