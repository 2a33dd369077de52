/-
  For every argument, laws.FnExactLearn returns true: impl.Learn and spec.Learn answer alike, no argument is written, the answer owns its memory; nothing that was in memory is written.
-/
import Derived.Test.YtneociicjidcnaaRows
import Derived.Test.YtneociicjidcnaaOpenKnownS
import Derived.Test.YtneociicjidcnaaSzKnown
import Derived.Test.YtneociicjidcnaaToKnown
import Derived.Test.YtneociicjidcnaaEqKnown
import Derived.Test.YtneociicjidcnaaMarkKnownO
import Derived.Test.YtneociicjidcnaaLearnS
import Derived.Test.YtneociicjidcnaaLearnI
import Derived.WalkSmall
import Derived.WalkKit
import Derived.ProofKit
import Derived.OpenShut
import Derived.OpenVars
import Derived.Deep.DeepHandedRow
import Derived.Lib.LaidTab
import Derived.Stop.LaidErr
namespace Go.Proofs.Ytneociicjidcnaa.fnExactLearn
open Go.ChangeShapes Go.WideShapes Go.ChangeAt Go.ChangeMaps Go.RowKit

set_option maxRecDepth 1000000 in
set_option maxHeartbeats 8000000 in
theorem walk (ao : Option Addr) (l : List KnownD) (cap : Nat) (hl : l.length ≤ maxLen) (_hf : KnownsFit l) (a : Int) (_wa : (Lit.int .i64 a).wf = true) (c : Int) (_wc : (Lit.int .i64 c).wf = true) (w : World) (ha : KnownsAt w ao l) :
    Calls Try.prog 5 #[.slice ao l.length cap, .int .i64 a, .int .i64 c] w fun e w' => e = .returned (.bool true) ∧ Below w.heap.size w w' := by
  have HA := hid ha
  have B := hid (Below.refl w.heap.size w)
  have O0 := hid (Nat.le_refl w.heap.size)
  clear ha
  go_enter Try.func5, Try.ntmps5
  go_wp2_with fail
  refine (szKnownS_any ao l cap 1048576 (by omega) (by omega) (by unfold maxLen at hl; omega) w).mono ?_
  rintro e w0 ⟨hor, hw⟩
  rw [hw]
  clear hw w0
  rcases hor with ⟨hneg, rfl⟩ | ⟨hnn, rfl⟩
  · go_wp2
    go_ret
    exact ⟨rfl, Below.refl _ _⟩
  have hl2 := (knownsSmall hnn).1
  clear hl hnn
  have hpos : ¬ (1048576 : Int) - (l.length : Int) < 0 := by omega
  obtain ⟨A, hF⟩ : ∃ A, learn l a c = A := ⟨_, rfl⟩
  have hA3 : A.length ≤ 1048576 := by rw [← hF]; have := learn_few l a c; omega
  go_wp2_with fail
  refine Calls.mono (toKnownS_any ao l cap hl2 _ (HA.out.on B.out)) ?_
  rintro e w1 ⟨rfl, k1, b1⟩
  have O1 := hid b1.size
  have Y1 := hid (own_of_knowns (Nat.le_refl _) k1)
  clear k1
  have B_1 := hid (below_via B.out b1)
  clear b1 B
  have CQ := hid (specLearn_any (some ⟨w.heap.size, 0, none⟩) l l.length a c hl2 w1 Y1.out.knowns)
  unfold LearnDid at CQ
  rw [hF] at CQ
  go_wp2_with fail
  refine Calls.mono (CQ.out) ?_
  rintro e w2 ⟨v2, c2, rfl, hvc2, h2, b2⟩
  have O2 := hid b2.size
  have R_w := hid h2
  clear h2 hvc2 CQ
  have B_2 := hid (below_via B_1.out b2)
  have Y1_2 := hid (Y1.out.on b2)
  clear b2 B_1 Y1
  clear Y1_2
  go_wp2_with fail
  refine Calls.mono (toKnownS_any ao l cap hl2 _ (HA.out.on B_2.out)) ?_
  rintro e w3 ⟨rfl, k3, b3⟩
  have O3 := hid b3.size
  have Y3 := hid (own_of_knowns (Nat.le_refl _) k3)
  clear k3
  have B_3 := hid (below_via B_2.out b3)
  have R_w_3 := hid (R_w.out.on b3)
  clear b3 B_2 R_w
  have CQ := hid (implLearn_any (some ⟨w2.heap.size, 0, none⟩) l l.length a c hl2 w3 Y3.out.knowns)
  unfold LearnDid at CQ
  rw [hF] at CQ
  go_wp2_with fail
  refine Calls.mono (CQ.out) ?_
  rintro e w4 ⟨v4, c4, rfl, hvc4, h4, b4⟩
  have O4 := hid b4.size
  have R_g := hid h4
  clear h4 hvc4 CQ
  have B_4 := hid (below_via B_3.out b4)
  have R_w_4 := hid (R_w_3.out.on b4)
  have Y3_4 := hid (Y3.out.on b4)
  clear b4 B_3 R_w_3 Y3
  go_wp2_with fail
  refine Calls.mono (eqKnownS_same v4 v2 A c4 c2 (by omega) _ R_g.out.knowns R_w_4.out.knowns) ?_
  rintro e w5 ⟨rfl, b5⟩
  have O5 := hid b5.size
  have B_5 := hid (below_via B_4.out b5)
  have R_w_5 := hid (R_w_4.out.on b5)
  have Y3_5 := hid (Y3_4.out.on b5)
  have R_g_5 := hid (R_g.out.on b5)
  clear b5 B_4 R_w_4 Y3_4 R_g
  go_wp2_with fail
  refine Calls.mono (toKnownS_any ao l cap hl2 _ (HA.out.on B_5.out)) ?_
  rintro e w6 ⟨rfl, k6, b6⟩
  have O6 := hid b6.size
  have Y6 := hid (own_of_knowns (Nat.le_refl _) k6)
  clear k6
  have B_6 := hid (below_via B_5.out b6)
  have R_w_6 := hid (R_w_5.out.on b6)
  have Y3_6 := hid (Y3_5.out.on b6)
  have R_g_6 := hid (R_g_5.out.on b6)
  clear b6 B_5 R_w_5 Y3_5 R_g_5
  go_wp2_with fail
  refine Calls.mono (eqKnownS_same (some ⟨w2.heap.size, 0, none⟩) (some ⟨w5.heap.size, 0, none⟩) l l.length l.length (by omega) _ Y3_6.out.knowns Y6.out.knowns) ?_
  rintro e w7 ⟨rfl, b7⟩
  have O7 := hid b7.size
  have B_7 := hid (below_via B_6.out b7)
  have R_w_7 := hid (R_w_6.out.on b7)
  have Y3_7 := hid (Y3_6.out.on b7)
  have R_g_7 := hid (R_g_6.out.on b7)
  have Y6_7 := hid (Y6.out.on b7)
  clear b7 B_6 R_w_6 Y3_6 R_g_6 Y6
  clear Y6_7
  go_wp2_with fail
  refine (markKnownS_o 1 (some ⟨w2.heap.size, 0, none⟩) l.length l (w2.heap.size) (w3.heap.size) (by omega) (by omega) _ (by have := O0.out; have := O1.out; have := O2.out; have := O3.out; have := O4.out; have := O5.out; have := O6.out; have := O7.out; omega) Y3_7.out).mono ?_
  rintro e w8 ⟨rfl, hm8, kp, b8⟩
  have O8 := hid b8.size
  have B_8 := hid (B_7.out.trans (b8.mono (by have := O0.out; have := O1.out; have := O2.out; have := O3.out; have := O4.out; have := O5.out; have := O6.out; have := O7.out; have := O8.out; omega)))
  have R_w_8 := hid (R_w_7.out.kept kp (by have := O0.out; have := O1.out; have := O2.out; have := O3.out; have := O4.out; have := O5.out; have := O6.out; have := O7.out; have := O8.out; omega))
  have R_g_8 := hid (R_g_7.out.kept kp (by have := O0.out; have := O1.out; have := O2.out; have := O3.out; have := O4.out; have := O5.out; have := O6.out; have := O7.out; have := O8.out; omega))
  clear kp b8 Y3_7 B_7 R_w_7 R_g_7
  clear hm8
  go_wp2_with fail
  refine Calls.mono (eqKnownS_same v4 v2 A c4 c2 (by omega) _ R_g_8.out.knowns R_w_8.out.knowns) ?_
  rintro e w9 ⟨rfl, b9⟩
  have O9 := hid b9.size
  have B_9 := hid (below_via B_8.out b9)
  have R_w_9 := hid (R_w_8.out.on b9)
  have R_g_9 := hid (R_g_8.out.on b9)
  clear b9 B_8 R_w_8 R_g_8
  go_wp2_with fail
  refine (markKnownS_o 1 v4 c4 A (w3.heap.size) (w4.heap.size) (by omega) hA3 _ (by have := O0.out; have := O1.out; have := O2.out; have := O3.out; have := O4.out; have := O5.out; have := O6.out; have := O7.out; have := O8.out; have := O9.out; omega) R_g_9.out).mono ?_
  rintro e w10 ⟨rfl, hm10, kp, b10⟩
  have O10 := hid b10.size
  have B_10 := hid (B_9.out.trans (b10.mono (by have := O0.out; have := O1.out; have := O2.out; have := O3.out; have := O4.out; have := O5.out; have := O6.out; have := O7.out; have := O8.out; have := O9.out; have := O10.out; omega)))
  have R_w_10 := hid (R_w_9.out.kept kp (by have := O0.out; have := O1.out; have := O2.out; have := O3.out; have := O4.out; have := O5.out; have := O6.out; have := O7.out; have := O8.out; have := O9.out; have := O10.out; omega))
  clear kp b10 R_g_9 B_9 R_w_9
  have M_10 := hid hm10
  clear hm10
  go_wp2_with fail
  refine Calls.mono (heldKnownS_any v4 A.length c4 1 (by omega) hA3 _ M_10.out) ?_
  rintro e w11 ⟨rfl, b11⟩
  have O11 := hid b11.size
  have B_11 := hid (below_via B_10.out b11)
  have R_w_11 := hid (R_w_10.out.on b11)
  have M_11 := hid (M_10.out.on b11)
  clear b11 B_10 R_w_10 M_10
  go_wp2_with fail
  refine Calls.mono (toKnownS_any ao l cap hl2 _ (HA.out.on B_11.out)) ?_
  rintro e w12 ⟨rfl, k12, b12⟩
  have O12 := hid b12.size
  have Y12 := hid (own_of_knowns (Nat.le_refl _) k12)
  clear k12
  have B_12 := hid (below_via B_11.out b12)
  have R_w_12 := hid (R_w_11.out.on b12)
  have M_12 := hid (M_11.out.on b12)
  clear b12 B_11 R_w_11 M_11
  have CQ := hid (implLearn_any (some ⟨w11.heap.size, 0, none⟩) l l.length a c hl2 w12 Y12.out.knowns)
  unfold LearnDid at CQ
  rw [hF] at CQ
  go_wp2_with fail
  refine Calls.mono (CQ.out) ?_
  rintro e w13 ⟨v13, c13, rfl, hvc13, h13, b13⟩
  have O13 := hid b13.size
  have R_h := hid h13
  clear h13 hvc13 CQ
  have B_13 := hid (below_via B_12.out b13)
  have R_w_13 := hid (R_w_12.out.on b13)
  have M_13 := hid (M_12.out.on b13)
  have Y12_13 := hid (Y12.out.on b13)
  clear b13 B_12 R_w_12 M_12 Y12
  clear Y12_13
  go_wp2_with fail
  refine Calls.mono (eqKnownS_same v13 v2 A c13 c2 (by omega) _ R_h.out.knowns R_w_13.out.knowns) ?_
  rintro e w14 ⟨rfl, b14⟩
  have O14 := hid b14.size
  have B_14 := hid (below_via B_13.out b14)
  have R_w_14 := hid (R_w_13.out.on b14)
  have M_14 := hid (M_13.out.on b14)
  have R_h_14 := hid (R_h.out.on b14)
  clear b14 B_13 R_w_13 M_13 R_h
  go_wp2_with fail
  refine Calls.mono (heldKnownS_any v4 A.length c4 1 (by omega) hA3 _ M_14.out) ?_
  rintro e w15 ⟨rfl, b15⟩
  have O15 := hid b15.size
  have B_15 := hid (below_via B_14.out b15)
  have R_w_15 := hid (R_w_14.out.on b15)
  have M_15 := hid (M_14.out.on b15)
  have R_h_15 := hid (R_h_14.out.on b15)
  clear b15 B_14 R_w_14 M_14 R_h_14
  go_wp2
  go_ret
  exact ⟨rfl, B_15.out⟩

theorem own : ownKnob Try.prog.godebug = none := by kernel_rfl
theorem laidOut : laidOutB Try.prog = true := by kernel_rfl
theorem rowed : varsRowed Try.prog Rows.fnExactLearnSpec.vars = true := by kernel_rfl
set_option maxRecDepth 1000000 in
theorem contract (H : Type) (enc : TypeId × Value → H) (W : World) (base : Nat) (args : Array Value) (ds gs : List (DataW H)) (before : List MemPlace)
    (hval : ∀ (j : Nat) t v, Try.f5.params[j]? = some t → args[j]? = some v → Value.okWide Try.prog W .any base t v)
    (hW : DataW.Whole enc Try.prog Try.f5.params.toList Rows.fnExactLearnSpec.vars false W args.toList ds gs before) (_hL : laidMetH Try.prog Rows.fnExactLearnRow.laid W) :
    Calls Try.prog 5 args W fun e W' => ∃ v, e = .returned v ∧ Rows.fnExactLearnSpec.post enc Try.prog Try.f5 false true false false W args v W' := by
  have hW' := hW
  obtain ⟨p, q, hA0, hV0, rfl, hfz, hnd⟩ := hW
  have hV : DataW.TrodVars enc Try.prog W (fun _ => true) Rows.fnExactLearnSpec.vars gs q := hV0
  have hA : DataW.TrodAll enc Try.prog W 0 (fun _ => true) true Try.f5.params.toList args.toList ds p := hA0
  rw [Try.params5] at hA hval
  obtain ⟨v0, vs0, d0, ds0, p0, q0, hargs0, rfl, rfl, h0, r0⟩ := trodAll_cons hA
  obtain ⟨v1, vs1, d1, ds1, p1, q1, hargs1, rfl, rfl, h1, r1⟩ := trodAll_cons r0
  subst hargs1
  obtain ⟨v2, vs2, d2, ds2, p2, q2, hargs2, rfl, rfl, h2, r2⟩ := trodAll_cons r1
  subst hargs2
  obtain ⟨rfl, rfl, rfl⟩ := trodAll_nil r2
  obtain rfl : args = #[v0, v1, v2] := by cases args; simp_all
  have k0 := h0
  have lt0 : ∀ x ∈ p0, x.block < W.heap.size := by obtain ⟨m, hm⟩ := k0; exact DataW.trod_lt m _ _ _ hm
  obtain ⟨a0, l0, cap0, rfl, hc0, hm0, hat0, hfit0⟩ := open_knownS (hval 0 38 v0 rfl rfl) h0
  obtain ⟨a1, rfl, rfl, rfl, w1⟩ := open_int Try.underlying3 (hval 1 3 v1 rfl rfl) h1
  obtain ⟨a2, rfl, rfl, rfl, w2⟩ := open_int Try.underlying3 (hval 2 3 v2 rfl rfl) h2
  clear hA0 hV0
  obtain ⟨rfl, rfl⟩ := trodVars_none hV
  refine (walk a0 l0 cap0 (Nat.le_trans hc0 hm0) hfit0 a1 w1 a2 w2 W hat0).mono fun e W' ⟨he, bel⟩ => ?_
  subst he
  exact ⟨_, rfl, _, _, _, [], _, [], hW', trodAll_mk1 (shut_bool Try.underlying4 _), trodAll_cons_mk (Below.trod laidOut (by kernel_rfl) (of_decide_eq_true (by kernel_rfl)) k0 bel lt0) (trodAll_cons_mk (shut_int Try.underlying3 w1) (trodAll_cons_mk (shut_int Try.underlying3 w2) (trodAll_mk0))), rfl, bel.frame _, fun h => by cases h⟩

def put (cs : Array Value) : Obj → Obj
  | .cells _ t frozen => .cells cs t frozen
  | o => o

/-- a world for the witness: the tables hold what their initialisers lay -/
def laidWorld (w : World) : World := { w with heap := w.heap }
theorem laid_met (os : Os) : laidMet Try.prog Rows.fnExactLearnRow.laid ((laidWorld (World.holding Try.prog os ⟨#[], #[], []⟩)).forCall (fun _ _ => 0) ⟨#[], #[.slice none 0 0, .int .i64 0, .int .i64 0], []⟩).memory :=
  laidMet_of_run' 8 (by kernel_rfl) (by kernel_rfl)
theorem reads (os : Os) {H : Type} (enc : TypeId × Value → H) : ∃ places, DataW.whole enc Try.prog ((laidWorld (World.holding Try.prog os ⟨#[], #[], []⟩)).forCall (fun _ _ => 0) ⟨#[], #[.slice none 0 0, .int .i64 0, .int .i64 0], []⟩).memory Try.f5.params.toList Rows.fnExactLearnSpec.vars false #[Value.slice none 0 0, .int .i64 0, .int .i64 0].toList 8 = some ([.nil, .lit (.int .i64 0), .lit (.int .i64 0)], [], places) :=
  ⟨[], by kernel_rfl⟩

set_option maxRecDepth 1000000 in
theorem lifted (os : Os) (started : os.Started) (H : Type) (enc : TypeId × Value → H) (F : Stop.Interp) :
    ReturnsInHanded {} Try.checked os 5 .any ((OpenSpec.ofChange Rows.fnExactLearnSpec).preRow enc Try.prog Try.f5 Rows.fnExactLearnRow.domain false Rows.fnExactLearnRow.laid) (((OpenSpec.ofChange Rows.fnExactLearnSpec).at F).post enc Try.prog Try.f5 false true false false) := by
  obtain ⟨places, hx⟩ := reads os enc
  refine returnsInHanded_of_row (C := Try.checked) (s := OpenSpec.ofChange Rows.fnExactLearnSpec) own started (by kernel_rfl) Try.func5
    (witness_row_at (enc := enc) (C := Try.checked) false (laidWorld (World.holding Try.prog os ⟨#[], #[], []⟩)) #[.slice none 0 0, .int .i64 0, .int .i64 0] rfl (by kernel_rfl) (by kernel_rfl) (by kernel_rfl)
      (OpenSpec.preRow_of_cond 8 hx (by kernel_rfl) (fun k hk => by cases hk) (by kernel_rfl) (laid_met os))) ?_
  intro W base args ds gs before hval hW _ _ _ hL _ _
  exact contract H enc W base args ds gs before hval hW hL

theorem said : Rows.FnExactLearnSaid :=
  OpenClaim.holds_of_cond 5 Try.f5 rfl rfl rfl rfl rfl rfl rfl ⟨rfl, rfl, rfl, rfl, rfl⟩ rfl rfl rfl rfl rfl (by kernel_rfl) Try.func5 (by kernel_rfl)
    (of_decide_eq_true (by kernel_rfl)) (by unfold Func.isWrapper; first | (rw [if_pos (by decide +kernel)]; kernel_rfl) | (rw [if_neg (by decide +kernel)]; exact ⟨rfl, rfl⟩))
    (fun os started H enc _ F => by rw [OpenClaim.pre_eq_preRow]; exact lifted os started H enc F)

end Go.Proofs.Ytneociicjidcnaa.fnExactLearn
