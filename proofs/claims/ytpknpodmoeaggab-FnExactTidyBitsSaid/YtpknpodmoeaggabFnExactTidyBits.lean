/-
  For every argument, laws.FnExactTidyBits returns true: impl.TidyBits and spec.TidyBits answer alike, no argument is written, the answer owns its memory; nothing that was in memory is written.
-/
import Derived.Test.YtpknpodmoeaggabRows
import Derived.Test.YtpknpodmoeaggabOpenBits
import Derived.Test.YtpknpodmoeaggabBitsTo
import Derived.Test.YtpknpodmoeaggabBitsEq
import Derived.Test.YtpknpodmoeaggabBitsHeld
import Derived.Test.YtpknpodmoeaggabTidyBitsS
import Derived.Test.YtpknpodmoeaggabTidyBitsI
import Derived.WalkSmall
import Derived.WalkKit
import Derived.ProofKit
import Derived.OpenShut
import Derived.OpenVars
import Derived.Deep.DeepHandedRow
import Derived.Lib.LaidTab
import Derived.Stop.LaidErr
namespace Go.Proofs.Ytpknpodmoeaggab.fnExactTidyBits
open Go.ChangeShapes Go.WideShapes Go.ChangeAt Go.ChangeMaps Go.RowKit

theorem cntBs_tidy : ∀ (l : List BitD) (now : Int), cntBs (tidyB l now) ≤ cntBs l
  | [], _ => Nat.le_refl _
  | e :: l, now => by
    have := cntBs_tidy l now
    unfold tidyB at this ⊢
    by_cases h : now < e.lim
    · rw [List.filter_cons_of_pos (by simpa using h)]
      simp only [cntBs]
      omega
    · rw [List.filter_cons_of_neg (by simpa using h)]
      simp only [cntBs]
      omega
set_option maxRecDepth 1000000 in
set_option maxHeartbeats 8000000 in
theorem walk (ao : Option Addr) (l : List BitD) (cap : Nat) (hl : l.length ≤ maxLen) (hf : ∀ e ∈ l, BitFits e) (now : Int) (_wn : (Lit.int .i64 now).wf = true) (w : World) (ha : BitsHold w ao l) :
    Calls Try.prog 6 #[.slice ao l.length cap, .int .i64 now] w fun e w' => e = .returned (.bool true) ∧ Below w.heap.size w w' := by
  have HA := hid ha
  have B := hid (Below.refl w.heap.size w)
  have O0 := hid (Nat.le_refl w.heap.size)
  have HF := hid hf
  clear ha hf
  go_enter Try.func6, Try.ntmps6
  go_wp2_with fail
  refine Calls.mono (szBitsS_any ao l cap 1048576 (by omega) (by omega) (by unfold maxLen at hl; omega) HF.out w (HA.out)) ?_
  rintro e w1 ⟨hor, b1⟩
  have O1 := hid b1.size
  have B_1 := hid (below_via B.out b1)
  clear b1 B
  rcases hor with ⟨hneg, rfl⟩ | ⟨hnn, rfl⟩
  · go_wp2
    go_ret
    exact ⟨rfl, B_1.out⟩
  obtain ⟨hl2, hsm, hbk⟩ := bits_small hnn
  have HSM := hid hsm
  have hcb := cntBs_bulk l
  have hc : cntBs l ≤ 6000000 := by omega
  have hpos : ¬ (1048576 : Int) - (l.length : Int) - bitBulk l < 0 := by omega
  have hbn := bitBulk_nonneg l
  have hbb : bitBulk l ≤ 1048576 := by omega
  clear hl hnn hsm hcb hbk
  obtain ⟨A, hF⟩ : ∃ A, tidyB l now = A := ⟨_, rfl⟩
  have hA3 : A.length ≤ 1048576 := by rw [← hF]; have := tidyB_length l now; omega
  have HSA : Hid (∀ e ∈ A, SmallB e) := (show ∀ e ∈ A, SmallB e by rw [← hF]; exact two_small HSM.out)
  have hcA : cntBs A ≤ 6000000 := by rw [← hF]; exact Nat.le_trans (cntBs_tidy l now) hc
  go_wp2_with fail
  refine Calls.mono (toBitsS_any ao l cap hl2 HSM.out _ (HA.out.on B_1.out)) ?_
  rintro e w2 ⟨rfl, k2, b2⟩
  have O2 := hid b2.size
  have Y2 := hid k2
  clear k2
  have B_2 := hid (below_via B_1.out b2)
  clear b2 B_1
  have CQ := hid (specTidyBits_any (some ⟨w1.heap.size, 0, none⟩) l l.length now hl2 HSM.out w2 Y2.out.holds)
  unfold BitsDid at CQ
  rw [hF] at CQ
  go_wp2_with fail
  refine Calls.mono (CQ.out) ?_
  rintro e w3 ⟨v3, c3, rfl, hvc3, h3, b3⟩
  have O3 := hid b3.size
  have R_w := hid h3
  clear h3 hvc3 CQ
  have B_3 := hid (below_via B_2.out b3)
  have Y2_3 := hid (Y2.out.on b3)
  clear b3 B_2 Y2
  clear Y2_3
  go_wp2_with fail
  refine Calls.mono (toBitsS_any ao l cap hl2 HSM.out _ (HA.out.on B_3.out)) ?_
  rintro e w4 ⟨rfl, k4, b4⟩
  have O4 := hid b4.size
  have Y4 := hid k4
  clear k4
  have B_4 := hid (below_via B_3.out b4)
  have R_w_4 := hid (R_w.out.on b4)
  clear b4 B_3 R_w
  have CQ := hid (implTidyBits_any (some ⟨w3.heap.size, 0, none⟩) l l.length now hl2 HSM.out w4 Y4.out.holds)
  unfold BitsDid at CQ
  rw [hF] at CQ
  go_wp2_with fail
  refine Calls.mono (CQ.out) ?_
  rintro e w5 ⟨v5, c5, rfl, hvc5, h5, b5⟩
  have O5 := hid b5.size
  have R_g := hid h5
  clear h5 hvc5 CQ
  have B_5 := hid (below_via B_4.out b5)
  have R_w_5 := hid (R_w_4.out.on b5)
  have Y4_5 := hid (Y4.out.on b5)
  clear b5 B_4 R_w_4 Y4
  go_wp2_with fail
  refine Calls.mono (eqBitsS_same v5 v3 A c5 c3 (by omega) HSA.out _ R_g.out.holds R_w_5.out.holds) ?_
  rintro e w6 ⟨rfl, b6⟩
  have O6 := hid b6.size
  have B_6 := hid (below_via B_5.out b6)
  have R_w_6 := hid (R_w_5.out.on b6)
  have Y4_6 := hid (Y4_5.out.on b6)
  have R_g_6 := hid (R_g.out.on b6)
  clear b6 B_5 R_w_5 Y4_5 R_g
  go_wp2_with fail
  refine Calls.mono (toBitsS_any ao l cap hl2 HSM.out _ (HA.out.on B_6.out)) ?_
  rintro e w7 ⟨rfl, k7, b7⟩
  have O7 := hid b7.size
  have Y7 := hid k7
  clear k7
  have B_7 := hid (below_via B_6.out b7)
  have R_w_7 := hid (R_w_6.out.on b7)
  have Y4_7 := hid (Y4_6.out.on b7)
  have R_g_7 := hid (R_g_6.out.on b7)
  clear b7 B_6 R_w_6 Y4_6 R_g_6
  go_wp2_with fail
  refine Calls.mono (eqBitsS_same (some ⟨w3.heap.size, 0, none⟩) (some ⟨w6.heap.size, 0, none⟩) l l.length l.length (by omega) HSM.out _ Y4_7.out.holds Y7.out.holds) ?_
  rintro e w8 ⟨rfl, b8⟩
  have O8 := hid b8.size
  have B_8 := hid (below_via B_7.out b8)
  have R_w_8 := hid (R_w_7.out.on b8)
  have Y4_8 := hid (Y4_7.out.on b8)
  have R_g_8 := hid (R_g_7.out.on b8)
  have Y7_8 := hid (Y7.out.on b8)
  clear b8 B_7 R_w_7 Y4_7 R_g_7 Y7
  clear Y7_8
  go_wp2_with fail
  refine (markBitsS_o 1 (some ⟨w3.heap.size, 0, none⟩) l.length l (w3.heap.size) (w4.heap.size) (by omega) hl2 hc HSM.out _ (by have := O0.out; have := O1.out; have := O2.out; have := O3.out; have := O4.out; have := O5.out; have := O6.out; have := O7.out; have := O8.out; omega) (by have := O0.out; have := O1.out; have := O2.out; have := O3.out; have := O4.out; have := O5.out; have := O6.out; have := O7.out; have := O8.out; omega) Y4_8.out).mono ?_
  rintro e w9 ⟨rfl, hm9, kp, b9⟩
  have O9 := hid b9.size
  have B_9 := hid (B_8.out.trans (b9.mono (by have := O0.out; have := O1.out; have := O2.out; have := O3.out; have := O4.out; have := O5.out; have := O6.out; have := O7.out; have := O8.out; have := O9.out; omega)))
  have R_w_9 := hid (R_w_8.out.kept kp (by have := O0.out; have := O1.out; have := O2.out; have := O3.out; have := O4.out; have := O5.out; have := O6.out; have := O7.out; have := O8.out; have := O9.out; omega))
  have R_g_9 := hid (R_g_8.out.kept kp (by have := O0.out; have := O1.out; have := O2.out; have := O3.out; have := O4.out; have := O5.out; have := O6.out; have := O7.out; have := O8.out; have := O9.out; omega))
  clear kp b9 Y4_8 B_8 R_w_8 R_g_8
  clear hm9
  go_wp2_with fail
  refine Calls.mono (eqBitsS_same v5 v3 A c5 c3 (by omega) HSA.out _ R_g_9.out.holds R_w_9.out.holds) ?_
  rintro e w10 ⟨rfl, b10⟩
  have O10 := hid b10.size
  have B_10 := hid (below_via B_9.out b10)
  have R_w_10 := hid (R_w_9.out.on b10)
  have R_g_10 := hid (R_g_9.out.on b10)
  clear b10 B_9 R_w_9 R_g_9
  go_wp2_with fail
  refine (markBitsS_o 1 v5 c5 A (w4.heap.size) (w5.heap.size) (by omega) hA3 hcA HSA.out _ (by have := O0.out; have := O1.out; have := O2.out; have := O3.out; have := O4.out; have := O5.out; have := O6.out; have := O7.out; have := O8.out; have := O9.out; have := O10.out; omega) (by have := O0.out; have := O1.out; have := O2.out; have := O3.out; have := O4.out; have := O5.out; have := O6.out; have := O7.out; have := O8.out; have := O9.out; have := O10.out; omega) R_g_10.out).mono ?_
  rintro e w11 ⟨rfl, hm11, kp, b11⟩
  have O11 := hid b11.size
  have B_11 := hid (B_10.out.trans (b11.mono (by have := O0.out; have := O1.out; have := O2.out; have := O3.out; have := O4.out; have := O5.out; have := O6.out; have := O7.out; have := O8.out; have := O9.out; have := O10.out; have := O11.out; omega)))
  have R_w_11 := hid (R_w_10.out.kept kp (by have := O0.out; have := O1.out; have := O2.out; have := O3.out; have := O4.out; have := O5.out; have := O6.out; have := O7.out; have := O8.out; have := O9.out; have := O10.out; have := O11.out; omega))
  clear kp b11 R_g_10 B_10 R_w_10
  have M_11 := hid hm11
  clear hm11
  go_wp2_with fail
  refine Calls.mono (heldBitsS_any v5 A c5 1 (by omega) hA3 hcA HSA.out _ M_11.out) ?_
  rintro e w12 ⟨rfl, b12⟩
  have O12 := hid b12.size
  have B_12 := hid (below_via B_11.out b12)
  have R_w_12 := hid (R_w_11.out.on b12)
  have M_12 := hid (M_11.out.on b12)
  clear b12 B_11 R_w_11 M_11
  go_wp2_with fail
  refine Calls.mono (toBitsS_any ao l cap hl2 HSM.out _ (HA.out.on B_12.out)) ?_
  rintro e w13 ⟨rfl, k13, b13⟩
  have O13 := hid b13.size
  have Y13 := hid k13
  clear k13
  have B_13 := hid (below_via B_12.out b13)
  have R_w_13 := hid (R_w_12.out.on b13)
  have M_13 := hid (M_12.out.on b13)
  clear b13 B_12 R_w_12 M_12
  have CQ := hid (implTidyBits_any (some ⟨w12.heap.size, 0, none⟩) l l.length now hl2 HSM.out w13 Y13.out.holds)
  unfold BitsDid at CQ
  rw [hF] at CQ
  go_wp2_with fail
  refine Calls.mono (CQ.out) ?_
  rintro e w14 ⟨v14, c14, rfl, hvc14, h14, b14⟩
  have O14 := hid b14.size
  have R_h := hid h14
  clear h14 hvc14 CQ
  have B_14 := hid (below_via B_13.out b14)
  have R_w_14 := hid (R_w_13.out.on b14)
  have M_14 := hid (M_13.out.on b14)
  have Y13_14 := hid (Y13.out.on b14)
  clear b14 B_13 R_w_13 M_13 Y13
  clear Y13_14
  go_wp2_with fail
  refine Calls.mono (eqBitsS_same v14 v3 A c14 c3 (by omega) HSA.out _ R_h.out.holds R_w_14.out.holds) ?_
  rintro e w15 ⟨rfl, b15⟩
  have O15 := hid b15.size
  have B_15 := hid (below_via B_14.out b15)
  have R_w_15 := hid (R_w_14.out.on b15)
  have M_15 := hid (M_14.out.on b15)
  have R_h_15 := hid (R_h.out.on b15)
  clear b15 B_14 R_w_14 M_14 R_h
  go_wp2_with fail
  refine Calls.mono (heldBitsS_any v5 A c5 1 (by omega) hA3 hcA HSA.out _ M_15.out) ?_
  rintro e w16 ⟨rfl, b16⟩
  have O16 := hid b16.size
  have B_16 := hid (below_via B_15.out b16)
  have R_w_16 := hid (R_w_15.out.on b16)
  have M_16 := hid (M_15.out.on b16)
  have R_h_16 := hid (R_h_15.out.on b16)
  clear b16 B_15 R_w_15 M_15 R_h_15
  go_wp2
  go_ret
  exact ⟨rfl, B_16.out⟩

theorem own : ownKnob Try.prog.godebug = none := by kernel_rfl
theorem laidOut : laidOutB Try.prog = true := by kernel_rfl
theorem rowed : varsRowed Try.prog Rows.fnExactTidyBitsSpec.vars = true := by kernel_rfl
set_option maxRecDepth 1000000 in
theorem contract (H : Type) (enc : TypeId × Value → H) (W : World) (base : Nat) (args : Array Value) (ds gs : List (DataW H)) (before : List MemPlace)
    (hval : ∀ (j : Nat) t v, Try.f6.params[j]? = some t → args[j]? = some v → Value.okWide Try.prog W .any base t v)
    (hW : DataW.Whole enc Try.prog Try.f6.params.toList Rows.fnExactTidyBitsSpec.vars false W args.toList ds gs before) (_hL : laidMetH Try.prog Rows.fnExactTidyBitsRow.laid W) :
    Calls Try.prog 6 args W fun e W' => ∃ v, e = .returned v ∧ Rows.fnExactTidyBitsSpec.post enc Try.prog Try.f6 false true false false W args v W' := by
  have hW' := hW
  obtain ⟨p, q, hA0, hV0, rfl, hfz, hnd⟩ := hW
  have hV : DataW.TrodVars enc Try.prog W (fun _ => true) Rows.fnExactTidyBitsSpec.vars gs q := hV0
  have hA : DataW.TrodAll enc Try.prog W 0 (fun _ => true) true Try.f6.params.toList args.toList ds p := hA0
  rw [Try.params6] at hA hval
  obtain ⟨v0, vs0, d0, ds0, p0, q0, hargs0, rfl, rfl, h0, r0⟩ := trodAll_cons hA
  obtain ⟨v1, vs1, d1, ds1, p1, q1, hargs1, rfl, rfl, h1, r1⟩ := trodAll_cons r0
  subst hargs1
  obtain ⟨rfl, rfl, rfl⟩ := trodAll_nil r1
  obtain rfl : args = #[v0, v1] := by cases args; simp_all
  have k0 := h0
  have lt0 : ∀ x ∈ p0, x.block < W.heap.size := by obtain ⟨m, hm⟩ := k0; exact DataW.trod_lt m _ _ _ hm
  obtain ⟨a0, l0, cap0, rfl, hc0, hm0, hat0, hfit0⟩ := open_bitsS (hval 0 37 v0 rfl rfl) h0
  obtain ⟨a1, rfl, rfl, rfl, w1⟩ := open_int Try.underlying3 (hval 1 3 v1 rfl rfl) h1
  clear hA0 hV0
  obtain ⟨rfl, rfl⟩ := trodVars_none hV
  refine (walk a0 l0 cap0 (Nat.le_trans hc0 hm0) hfit0 a1 w1 W hat0).mono fun e W' ⟨he, bel⟩ => ?_
  subst he
  exact ⟨_, rfl, _, _, _, [], _, [], hW', trodAll_mk1 (shut_bool Try.underlying4 _), trodAll_cons_mk (Below.trod laidOut (by kernel_rfl) (of_decide_eq_true (by kernel_rfl)) k0 bel lt0) (trodAll_cons_mk (shut_int Try.underlying3 w1) (trodAll_mk0)), rfl, bel.frame _, fun h => by cases h⟩

def put (cs : Array Value) : Obj → Obj
  | .cells _ t frozen => .cells cs t frozen
  | o => o

/-- a world for the witness: the tables hold what their initialisers lay -/
def laidWorld (w : World) : World := { w with heap := w.heap }
theorem laid_met (os : Os) : laidMet Try.prog Rows.fnExactTidyBitsRow.laid ((laidWorld (World.holding Try.prog os ⟨#[], #[], []⟩)).forCall (fun _ _ => 0) ⟨#[], #[.slice none 0 0, .int .i64 0], []⟩).memory :=
  laidMet_of_run' 8 (by kernel_rfl) (by kernel_rfl)
theorem reads (os : Os) {H : Type} (enc : TypeId × Value → H) : ∃ places, DataW.whole enc Try.prog ((laidWorld (World.holding Try.prog os ⟨#[], #[], []⟩)).forCall (fun _ _ => 0) ⟨#[], #[.slice none 0 0, .int .i64 0], []⟩).memory Try.f6.params.toList Rows.fnExactTidyBitsSpec.vars false #[Value.slice none 0 0, .int .i64 0].toList 8 = some ([.nil, .lit (.int .i64 0)], [], places) :=
  ⟨[], by kernel_rfl⟩

set_option maxRecDepth 1000000 in
theorem lifted (os : Os) (started : os.Started) (H : Type) (enc : TypeId × Value → H) (F : Stop.Interp) :
    ReturnsInHanded {} Try.checked os 6 .any ((OpenSpec.ofChange Rows.fnExactTidyBitsSpec).preRow enc Try.prog Try.f6 Rows.fnExactTidyBitsRow.domain false Rows.fnExactTidyBitsRow.laid) (((OpenSpec.ofChange Rows.fnExactTidyBitsSpec).at F).post enc Try.prog Try.f6 false true false false) := by
  obtain ⟨places, hx⟩ := reads os enc
  refine returnsInHanded_of_row (C := Try.checked) (s := OpenSpec.ofChange Rows.fnExactTidyBitsSpec) own started (by kernel_rfl) Try.func6
    (witness_row_at (enc := enc) (C := Try.checked) false (laidWorld (World.holding Try.prog os ⟨#[], #[], []⟩)) #[.slice none 0 0, .int .i64 0] rfl (by kernel_rfl) (by kernel_rfl) (by kernel_rfl)
      (OpenSpec.preRow_of_cond 8 hx (by kernel_rfl) (fun k hk => by cases hk) (by kernel_rfl) (laid_met os))) ?_
  intro W base args ds gs before hval hW _ _ _ hL _ _
  exact contract H enc W base args ds gs before hval hW hL

theorem said : Rows.FnExactTidyBitsSaid :=
  OpenClaim.holds_of_cond 6 Try.f6 rfl rfl rfl rfl rfl rfl rfl ⟨rfl, rfl, rfl, rfl, rfl⟩ rfl rfl rfl rfl rfl (by kernel_rfl) Try.func6 (by kernel_rfl)
    (of_decide_eq_true (by kernel_rfl)) (by unfold Func.isWrapper; first | (rw [if_pos (by decide +kernel)]; kernel_rfl) | (rw [if_neg (by decide +kernel)]; exact ⟨rfl, rfl⟩))
    (fun os started H enc _ F => by rw [OpenClaim.pre_eq_preRow]; exact lifted os started H enc F)

end Go.Proofs.Ytpknpodmoeaggab.fnExactTidyBits
