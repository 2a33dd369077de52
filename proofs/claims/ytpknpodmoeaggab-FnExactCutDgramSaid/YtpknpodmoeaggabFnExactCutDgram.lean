/-
  For every argument, laws.FnExactCutDgram returns true: impl.CutDgram and spec.CutDgram answer alike, the answer owns its memory; nothing that was in memory is written.
-/
import Derived.Test.YtpknpodmoeaggabRows
import Derived.Test.YtpknpodmoeaggabOpenDgram
import Derived.Test.YtpknpodmoeaggabOneDgram
import Derived.Test.YtpknpodmoeaggabEqDgram
import Derived.Test.YtpknpodmoeaggabDgramOwn
import Derived.Test.YtpknpodmoeaggabCutDgramS
import Derived.Test.YtpknpodmoeaggabCutDgramI
import Derived.WalkSmall
import Derived.WalkKit
import Derived.ProofKit
import Derived.OpenShut
import Derived.OpenVars
import Derived.Deep.DeepHandedRow
import Derived.Lib.LaidTab
import Derived.Stop.LaidErr
namespace Go.Proofs.Ytpknpodmoeaggab.fnExactCutDgram
open Go.ChangeShapes Go.WideShapes Go.ChangeAt Go.ChangeMaps Go.RowKit

set_option maxRecDepth 1000000 in
set_option maxHeartbeats 8000000 in
theorem walk (d : DgramD) (hf : d.Fits) (size : Int) (_ws : (Lit.int .i64 size).wf = true) (w : World) :
    Calls Try.prog 4 #[.agg #[.int .i64 d.src, .int .i64 d.dst, .int .i64 d.ident, .int .i64 d.place, .bool d.more, .string d.body], .int .i64 size] w fun e w' => e = .returned (.bool true) ∧ Below w.heap.size w w' := by
  have HF := hid hf
  have hb0 := below_more (Below.refl w.heap.size w) (.cells #[.int .i64 d.src, .int .i64 d.dst, .int .i64 d.ident, .int .i64 d.place, .bool d.more, .string d.body] 28)
  have hx0 : BlockIs (w.alloc (.cells #[.int .i64 d.src, .int .i64 d.dst, .int .i64 d.ident, .int .i64 d.place, .bool d.more, .string d.body] 28)) w.heap.size 28 [.int .i64 d.src, .int .i64 d.dst, .int .i64 d.ident, .int .i64 d.place, .bool d.more, .string d.body] := heap_alloc_new w _
  obtain ⟨W0, hW0⟩ : ∃ W0, w.alloc (.cells #[.int .i64 d.src, .int .i64 d.dst, .int .i64 d.ident, .int .i64 d.place, .bool d.more, .string d.body] 28) = W0 := ⟨_, rfl⟩
  rw [hW0] at hb0 hx0
  have X := hid hx0
  have B := hid hb0
  have O0 := hid hx0.lt
  clear hb0 hx0 hf
  have c0 := X.out.cell (j := 0) rfl
  have c1 := X.out.cell (j := 1) rfl
  have c2 := X.out.cell (j := 2) rfl
  have c3 := X.out.cell (j := 3) rfl
  have c4 := X.out.cell (j := 4) rfl
  have c5 := X.out.cell (j := 5) rfl
  go_enter Try.func4, Try.ntmps4
  go_wp2_with fail
  refine Calls.mono (szDgram_any d 1048576 (by omega) (by omega) HF.out _) ?_
  rintro e w1 ⟨hor, b1⟩
  have O1 := hid b1.size
  have B_1 := hid (below_via B.out b1)
  have X_1 := hid (X.out.on b1 X.out.lt)
  clear b1 B X c0 c1 c2 c3 c4 c5 hW0
  have c0_1 := X_1.out.cell (j := 0) rfl
  have c1_1 := X_1.out.cell (j := 1) rfl
  have c2_1 := X_1.out.cell (j := 2) rfl
  have c3_1 := X_1.out.cell (j := 3) rfl
  have c4_1 := X_1.out.cell (j := 4) rfl
  have c5_1 := X_1.out.cell (j := 5) rfl
  rcases hor with ⟨hneg, rfl⟩ | ⟨hnn, rfl⟩
  · go_wp2
    go_ret
    exact ⟨rfl, B_1.out⟩
  have hnn' : ¬ (1048576 : Int) - dgramOne d < 0 := by omega
  have hsz : d.body.size ≤ 1048576 := by simp only [dgramOne] at hnn; omega
  clear hnn
  obtain ⟨A, hF⟩ : ∃ A, cutD d size = A := ⟨_, rfl⟩
  obtain ⟨ok, hK⟩ : ∃ k, cutOk d size = k := ⟨_, rfl⟩
  have hA3 : A.length ≤ 20 := by rw [← hF]; exact cutD_few d size
  cases ok
  all_goals
    go_wp2_with fail
    refine Calls.mono (toDgram_any d _) ?_
    rintro e w2 ⟨rfl, b2⟩
    have O2 := hid b2.size
    have B_2 := hid (below_via B_1.out b2)
    have X_2 := hid (X_1.out.on b2 X_1.out.lt)
    clear b2 B_1 X_1 c0_1 c1_1 c2_1 c3_1 c4_1 c5_1
    have c0_2 := X_2.out.cell (j := 0) rfl
    have c1_2 := X_2.out.cell (j := 1) rfl
    have c2_2 := X_2.out.cell (j := 2) rfl
    have c3_2 := X_2.out.cell (j := 3) rfl
    have c4_2 := X_2.out.cell (j := 4) rfl
    have c5_2 := X_2.out.cell (j := 5) rfl
    have CQ := hid (specCutDgram_any d size (by omega) w2)
    unfold CutDid at CQ
    rw [hF, hK] at CQ
    go_wp2_with fail
    refine Calls.mono (CQ.out) ?_
    rintro e w3 ⟨v3, c3, rfl, hvc3, h3, b3⟩
    have O3 := hid b3.size
    have R_w := hid h3
    clear h3 hvc3 CQ
    have B_3 := hid (below_via B_2.out b3)
    have X_3 := hid (X_2.out.on b3 X_2.out.lt)
    clear b3 B_2 X_2 c0_2 c1_2 c2_2 c3_2 c4_2 c5_2
    have c0_3 := X_3.out.cell (j := 0) rfl
    have c1_3 := X_3.out.cell (j := 1) rfl
    have c2_3 := X_3.out.cell (j := 2) rfl
    have c3_3 := X_3.out.cell (j := 3) rfl
    have c4_3 := X_3.out.cell (j := 4) rfl
    have c5_3 := X_3.out.cell (j := 5) rfl
    go_wp2_with fail
    refine Calls.mono (toDgram_any d _) ?_
    rintro e w4 ⟨rfl, b4⟩
    have O4 := hid b4.size
    have B_4 := hid (below_via B_3.out b4)
    have X_4 := hid (X_3.out.on b4 X_3.out.lt)
    have R_w_4 := hid (R_w.out.on b4)
    clear b4 B_3 X_3 R_w c0_3 c1_3 c2_3 c3_3 c4_3 c5_3
    have c0_4 := X_4.out.cell (j := 0) rfl
    have c1_4 := X_4.out.cell (j := 1) rfl
    have c2_4 := X_4.out.cell (j := 2) rfl
    have c3_4 := X_4.out.cell (j := 3) rfl
    have c4_4 := X_4.out.cell (j := 4) rfl
    have c5_4 := X_4.out.cell (j := 5) rfl
    have CQ := hid (implCutDgram_any d size (by omega) w4)
    unfold CutDid at CQ
    rw [hF, hK] at CQ
    go_wp2_with fail
    refine Calls.mono (CQ.out) ?_
    rintro e w5 ⟨v5, c5, rfl, hvc5, h5, b5⟩
    have O5 := hid b5.size
    have R_g := hid h5
    clear h5 hvc5 CQ
    have B_5 := hid (below_via B_4.out b5)
    have X_5 := hid (X_4.out.on b5 X_4.out.lt)
    have R_w_5 := hid (R_w_4.out.on b5)
    clear b5 B_4 X_4 R_w_4 c0_4 c1_4 c2_4 c3_4 c4_4 c5_4
    have c0_5 := X_5.out.cell (j := 0) rfl
    have c1_5 := X_5.out.cell (j := 1) rfl
    have c2_5 := X_5.out.cell (j := 2) rfl
    have c3_5 := X_5.out.cell (j := 3) rfl
    have c4_5 := X_5.out.cell (j := 4) rfl
    have c5_5 := X_5.out.cell (j := 5) rfl
    go_wp2_with fail
    refine Calls.mono (eqDgramS_same v5 v3 A c5 c3 (by omega) _ R_g.out.dgrams R_w_5.out.dgrams) ?_
    rintro e w6 ⟨rfl, b6⟩
    have O6 := hid b6.size
    have B_6 := hid (below_via B_5.out b6)
    have X_6 := hid (X_5.out.on b6 X_5.out.lt)
    have R_w_6 := hid (R_w_5.out.on b6)
    have R_g_6 := hid (R_g.out.on b6)
    clear b6 B_5 X_5 R_w_5 R_g c0_5 c1_5 c2_5 c3_5 c4_5 c5_5
    have c0_6 := X_6.out.cell (j := 0) rfl
    have c1_6 := X_6.out.cell (j := 1) rfl
    have c2_6 := X_6.out.cell (j := 2) rfl
    have c3_6 := X_6.out.cell (j := 3) rfl
    have c4_6 := X_6.out.cell (j := 4) rfl
    have c5_6 := X_6.out.cell (j := 5) rfl
    go_wp2_with fail
    refine (markDgramS_o 1 v5 c5 A (w4.heap.size) (w5.heap.size) (by omega) (by omega) _ (by have := O0.out; have := O1.out; have := O2.out; have := O3.out; have := O4.out; have := O5.out; have := O6.out; omega) R_g_6.out).mono ?_
    rintro e w7 ⟨rfl, hm7, kp, b7⟩
    have O7 := hid b7.size
    have B_7 := hid (B_6.out.trans (b7.mono (by have := O0.out; have := O1.out; have := O2.out; have := O3.out; have := O4.out; have := O5.out; have := O6.out; have := O7.out; omega)))
    have X_7 := hid (X_6.out.kept kp (by have := O0.out; have := O1.out; have := O2.out; have := O3.out; have := O4.out; have := O5.out; have := O6.out; have := O7.out; omega))
    have R_w_7 := hid (R_w_6.out.kept kp (by have := O0.out; have := O1.out; have := O2.out; have := O3.out; have := O4.out; have := O5.out; have := O6.out; have := O7.out; omega))
    clear kp b7 R_g_6 c0_6 c1_6 c2_6 c3_6 c4_6 c5_6 B_6 X_6 R_w_6
    have c0_7 := X_7.out.cell (j := 0) rfl
    have c1_7 := X_7.out.cell (j := 1) rfl
    have c2_7 := X_7.out.cell (j := 2) rfl
    have c3_7 := X_7.out.cell (j := 3) rfl
    have c4_7 := X_7.out.cell (j := 4) rfl
    have c5_7 := X_7.out.cell (j := 5) rfl
    have M_7 := hid hm7
    clear hm7
    go_wp2_with fail
    refine Calls.mono (heldDgramS_any v5 A.length c5 1 (by omega) (by omega) _ M_7.out) ?_
    rintro e w8 ⟨rfl, b8⟩
    have O8 := hid b8.size
    have B_8 := hid (below_via B_7.out b8)
    have X_8 := hid (X_7.out.on b8 X_7.out.lt)
    have R_w_8 := hid (R_w_7.out.on b8)
    have M_8 := hid (M_7.out.on b8)
    clear b8 B_7 X_7 R_w_7 M_7 c0_7 c1_7 c2_7 c3_7 c4_7 c5_7
    have c0_8 := X_8.out.cell (j := 0) rfl
    have c1_8 := X_8.out.cell (j := 1) rfl
    have c2_8 := X_8.out.cell (j := 2) rfl
    have c3_8 := X_8.out.cell (j := 3) rfl
    have c4_8 := X_8.out.cell (j := 4) rfl
    have c5_8 := X_8.out.cell (j := 5) rfl
    go_wp2_with fail
    refine Calls.mono (toDgram_any d _) ?_
    rintro e w9 ⟨rfl, b9⟩
    have O9 := hid b9.size
    have B_9 := hid (below_via B_8.out b9)
    have X_9 := hid (X_8.out.on b9 X_8.out.lt)
    have R_w_9 := hid (R_w_8.out.on b9)
    have M_9 := hid (M_8.out.on b9)
    clear b9 B_8 X_8 R_w_8 M_8 c0_8 c1_8 c2_8 c3_8 c4_8 c5_8
    have c0_9 := X_9.out.cell (j := 0) rfl
    have c1_9 := X_9.out.cell (j := 1) rfl
    have c2_9 := X_9.out.cell (j := 2) rfl
    have c3_9 := X_9.out.cell (j := 3) rfl
    have c4_9 := X_9.out.cell (j := 4) rfl
    have c5_9 := X_9.out.cell (j := 5) rfl
    have CQ := hid (implCutDgram_any d size (by omega) w9)
    unfold CutDid at CQ
    rw [hF, hK] at CQ
    go_wp2_with fail
    refine Calls.mono (CQ.out) ?_
    rintro e w10 ⟨v10, c10, rfl, hvc10, h10, b10⟩
    have O10 := hid b10.size
    have R_h := hid h10
    clear h10 hvc10 CQ
    have B_10 := hid (below_via B_9.out b10)
    have X_10 := hid (X_9.out.on b10 X_9.out.lt)
    have R_w_10 := hid (R_w_9.out.on b10)
    have M_10 := hid (M_9.out.on b10)
    clear b10 B_9 X_9 R_w_9 M_9 c0_9 c1_9 c2_9 c3_9 c4_9 c5_9
    have c0_10 := X_10.out.cell (j := 0) rfl
    have c1_10 := X_10.out.cell (j := 1) rfl
    have c2_10 := X_10.out.cell (j := 2) rfl
    have c3_10 := X_10.out.cell (j := 3) rfl
    have c4_10 := X_10.out.cell (j := 4) rfl
    have c5_10 := X_10.out.cell (j := 5) rfl
    go_wp2_with fail
    refine Calls.mono (eqDgramS_same v10 v3 A c10 c3 (by omega) _ R_h.out.dgrams R_w_10.out.dgrams) ?_
    rintro e w11 ⟨rfl, b11⟩
    have O11 := hid b11.size
    have B_11 := hid (below_via B_10.out b11)
    have X_11 := hid (X_10.out.on b11 X_10.out.lt)
    have R_w_11 := hid (R_w_10.out.on b11)
    have M_11 := hid (M_10.out.on b11)
    have R_h_11 := hid (R_h.out.on b11)
    clear b11 B_10 X_10 R_w_10 M_10 R_h c0_10 c1_10 c2_10 c3_10 c4_10 c5_10
    have c0_11 := X_11.out.cell (j := 0) rfl
    have c1_11 := X_11.out.cell (j := 1) rfl
    have c2_11 := X_11.out.cell (j := 2) rfl
    have c3_11 := X_11.out.cell (j := 3) rfl
    have c4_11 := X_11.out.cell (j := 4) rfl
    have c5_11 := X_11.out.cell (j := 5) rfl
    go_wp2_with fail
    refine Calls.mono (heldDgramS_any v5 A.length c5 1 (by omega) (by omega) _ M_11.out) ?_
    rintro e w12 ⟨rfl, b12⟩
    have O12 := hid b12.size
    have B_12 := hid (below_via B_11.out b12)
    have X_12 := hid (X_11.out.on b12 X_11.out.lt)
    have R_w_12 := hid (R_w_11.out.on b12)
    have M_12 := hid (M_11.out.on b12)
    have R_h_12 := hid (R_h_11.out.on b12)
    clear b12 B_11 X_11 R_w_11 M_11 R_h_11 c0_11 c1_11 c2_11 c3_11 c4_11 c5_11
    have c0_12 := X_12.out.cell (j := 0) rfl
    have c1_12 := X_12.out.cell (j := 1) rfl
    have c2_12 := X_12.out.cell (j := 2) rfl
    have c3_12 := X_12.out.cell (j := 3) rfl
    have c4_12 := X_12.out.cell (j := 4) rfl
    have c5_12 := X_12.out.cell (j := 5) rfl
    go_wp2
    go_ret
    exact ⟨rfl, B_12.out⟩

theorem own : ownKnob Try.prog.godebug = none := by kernel_rfl
theorem laidOut : laidOutB Try.prog = true := by kernel_rfl
theorem rowed : varsRowed Try.prog Rows.fnExactCutDgramSpec.vars = true := by kernel_rfl
set_option maxRecDepth 1000000 in
theorem contract (H : Type) (enc : TypeId × Value → H) (W : World) (base : Nat) (args : Array Value) (ds gs : List (DataW H)) (before : List MemPlace)
    (hval : ∀ (j : Nat) t v, Try.f4.params[j]? = some t → args[j]? = some v → Value.okWide Try.prog W .any base t v)
    (hW : DataW.Whole enc Try.prog Try.f4.params.toList Rows.fnExactCutDgramSpec.vars false W args.toList ds gs before) (_hL : laidMetH Try.prog Rows.fnExactCutDgramRow.laid W) :
    Calls Try.prog 4 args W fun e W' => ∃ v, e = .returned v ∧ Rows.fnExactCutDgramSpec.post enc Try.prog Try.f4 false true false false W args v W' := by
  have hW' := hW
  obtain ⟨p, q, hA0, hV0, rfl, hfz, hnd⟩ := hW
  have hV : DataW.TrodVars enc Try.prog W (fun _ => true) Rows.fnExactCutDgramSpec.vars gs q := hV0
  have hA : DataW.TrodAll enc Try.prog W 0 (fun _ => true) true Try.f4.params.toList args.toList ds p := hA0
  rw [Try.params4] at hA hval
  obtain ⟨v0, vs0, d0, ds0, p0, q0, hargs0, rfl, rfl, h0, r0⟩ := trodAll_cons hA
  obtain ⟨v1, vs1, d1, ds1, p1, q1, hargs1, rfl, rfl, h1, r1⟩ := trodAll_cons r0
  subst hargs1
  obtain ⟨rfl, rfl, rfl⟩ := trodAll_nil r1
  obtain rfl : args = #[v0, v1] := by cases args; simp_all
  have k0 := h0
  have lt0 : ∀ x ∈ p0, x.block < W.heap.size := by obtain ⟨m, hm⟩ := k0; exact DataW.trod_lt m _ _ _ hm
  obtain ⟨a0, rfl, hf0⟩ := open_dgram (hval 0 28 v0 rfl rfl) h0
  obtain ⟨a1, rfl, rfl, rfl, w1⟩ := open_int Try.underlying3 (hval 1 3 v1 rfl rfl) h1
  clear hA0 hV0
  obtain ⟨rfl, rfl⟩ := trodVars_none hV
  refine (walk a0 hf0 a1 w1 W ).mono fun e W' ⟨he, bel⟩ => ?_
  subst he
  exact ⟨_, rfl, _, _, _, [], _, [], hW', trodAll_mk1 (shut_bool Try.underlying4 _), trodAll_cons_mk (Below.trod laidOut (by kernel_rfl) (of_decide_eq_true (by kernel_rfl)) k0 bel lt0) (trodAll_cons_mk (shut_int Try.underlying3 w1) (trodAll_mk0)), rfl, bel.frame _, fun h => by cases h⟩

def put (cs : Array Value) : Obj → Obj
  | .cells _ t frozen => .cells cs t frozen
  | o => o

/-- a world for the witness: the tables hold what their initialisers lay -/
def laidWorld (w : World) : World := { w with heap := w.heap }
theorem laid_met (os : Os) : laidMet Try.prog Rows.fnExactCutDgramRow.laid ((laidWorld (World.holding Try.prog os ⟨#[], #[], []⟩)).forCall (fun _ _ => 0) ⟨#[], #[.agg #[.int .i64 0, .int .i64 0, .int .i64 0, .int .i64 0, .bool false, .string ByteArray.empty], .int .i64 0], []⟩).memory :=
  laidMet_of_run' 8 (by kernel_rfl) (by kernel_rfl)
theorem reads (os : Os) {H : Type} (enc : TypeId × Value → H) : ∃ places, DataW.whole enc Try.prog ((laidWorld (World.holding Try.prog os ⟨#[], #[], []⟩)).forCall (fun _ _ => 0) ⟨#[], #[.agg #[.int .i64 0, .int .i64 0, .int .i64 0, .int .i64 0, .bool false, .string ByteArray.empty], .int .i64 0], []⟩).memory Try.f4.params.toList Rows.fnExactCutDgramSpec.vars false #[Value.agg #[.int .i64 0, .int .i64 0, .int .i64 0, .int .i64 0, .bool false, .string ByteArray.empty], .int .i64 0].toList 8 = some ([.agg [.lit (.int .i64 0), .lit (.int .i64 0), .lit (.int .i64 0), .lit (.int .i64 0), .lit (.bool false), .lit (.string [])], .lit (.int .i64 0)], [], places) :=
  ⟨[], by kernel_rfl⟩

set_option maxRecDepth 1000000 in
theorem lifted (os : Os) (started : os.Started) (H : Type) (enc : TypeId × Value → H) (F : Stop.Interp) :
    ReturnsInHanded {} Try.checked os 4 .any ((OpenSpec.ofChange Rows.fnExactCutDgramSpec).preRow enc Try.prog Try.f4 Rows.fnExactCutDgramRow.domain false Rows.fnExactCutDgramRow.laid) (((OpenSpec.ofChange Rows.fnExactCutDgramSpec).at F).post enc Try.prog Try.f4 false true false false) := by
  obtain ⟨places, hx⟩ := reads os enc
  refine returnsInHanded_of_row (C := Try.checked) (s := OpenSpec.ofChange Rows.fnExactCutDgramSpec) own started (by kernel_rfl) Try.func4
    (witness_row_at (enc := enc) (C := Try.checked) false (laidWorld (World.holding Try.prog os ⟨#[], #[], []⟩)) #[.agg #[.int .i64 0, .int .i64 0, .int .i64 0, .int .i64 0, .bool false, .string ByteArray.empty], .int .i64 0] rfl (by kernel_rfl) (by kernel_rfl) (by kernel_rfl)
      (OpenSpec.preRow_of_cond 8 hx (by kernel_rfl) (fun k hk => by cases hk) (by kernel_rfl) (laid_met os))) ?_
  intro W base args ds gs before hval hW _ _ _ hL _ _
  exact contract H enc W base args ds gs before hval hW hL

theorem said : Rows.FnExactCutDgramSaid :=
  OpenClaim.holds_of_cond 4 Try.f4 rfl rfl rfl rfl rfl rfl rfl ⟨rfl, rfl, rfl, rfl, rfl⟩ rfl rfl rfl rfl rfl (by kernel_rfl) Try.func4 (by kernel_rfl)
    (of_decide_eq_true (by kernel_rfl)) (by unfold Func.isWrapper; first | (rw [if_pos (by decide +kernel)]; kernel_rfl) | (rw [if_neg (by decide +kernel)]; exact ⟨rfl, rfl⟩))
    (fun os started H enc _ F => by rw [OpenClaim.pre_eq_preRow]; exact lifted os started H enc F)

end Go.Proofs.Ytpknpodmoeaggab.fnExactCutDgram
