/-
  For every journal, laws.FnExactJournalOk returns true: impl.JournalOk and spec.JournalOk answer alike; nothing that was in memory is written.
-/
import Derived.Test.YtjkgjnpifdafaaaRows
import Derived.Test.YtjkgjnpifdafaaaOpenJour
import Derived.Test.YtjkgjnpifdafaaaJourOkS
import Derived.Test.YtjkgjnpifdafaaaJourOkI
import Derived.Deep.RegionWith
import Derived.WalkSmall
import Derived.WalkKit
import Derived.ProofKit
import Derived.OpenShut
import Derived.OpenVars
import Derived.Deep.DeepHandedRow
import Derived.Lib.LaidTab
import Derived.Stop.LaidErr
namespace Go.Proofs.Ytjkgjnpifdafaaa.fnExactJournalOk
open Go.ChangeShapes Go.WideShapes Go.ChangeAt Go.ChangeMaps Go.RowKit

set_option maxRecDepth 1000000 in
set_option maxHeartbeats 1000000 in
theorem walk (n tm vt s t : Int) (_hn : -9223372036854775808 ≤ n ∧ n ≤ 9223372036854775807) (_htm : -9223372036854775808 ≤ tm ∧ tm ≤ 9223372036854775807) (_hvt : -9223372036854775808 ≤ vt ∧ vt ≤ 9223372036854775807) (_hs : -9223372036854775808 ≤ s ∧ s ≤ 9223372036854775807) (_ht : -9223372036854775808 ≤ t ∧ t ≤ 9223372036854775807) (ao : Option Addr) (l : List EntD) (cap : Nat) (hl : l.length ≤ maxLen) (hf : EntsFit l) (w : World) (ha : EntsAt w ao l) :
    Calls Try.prog 8 #[.agg #[.int .i64 n, .int .i64 tm, .int .i64 vt, .int .i64 s, .int .i64 t, .slice ao l.length cap]] w fun e w' => e = .returned (.bool true) ∧ Below w.heap.size w w' := by
  have HA := hid ha
  have cSz := hid (fun w ha => szJour_any n tm vt s t ao l cap 1048576 (by omega) (by omega) (by unfold maxLen at hl; omega) hf w ha)
  have HX := hid (show BlockIs (w.alloc (.cells #[.int .i64 n, .int .i64 tm, .int .i64 vt, .int .i64 s, .int .i64 t, .slice ao l.length cap] 57)) w.heap.size 57 [.int .i64 n, .int .i64 tm, .int .i64 vt, .int .i64 s, .int .i64 t, .slice ao l.length cap] from heap_alloc_new w _)
  have HB := hid (below_more (Below.refl w.heap.size w) (.cells #[.int .i64 n, .int .i64 tm, .int .i64 vt, .int .i64 s, .int .i64 t, .slice ao l.length cap] 57))
  clear ha
  go_enter Try.func8, Try.ntmps8
  go_wp2_with fail
  refine (cSz.out _ (HA.out.on HB.out)).mono ?_
  rintro e w1 ⟨(⟨hneg, rfl⟩ | ⟨hnn, rfl⟩), b1⟩
  · have B1 := hid (below_via HB.out b1)
    clear b1 cSz HB HX hneg hf
    go_wp2
    go_ret
    exact ⟨rfl, B1.out⟩
  · have B1 := hid (below_via HB.out b1)
    have X1 := hid (HX.out.on b1 HX.out.lt)
    have x10 := X1.out.cell (j := 0) rfl
    have x11 := X1.out.cell (j := 1) rfl
    have x12 := X1.out.cell (j := 2) rfl
    have x13 := X1.out.cell (j := 3) rfl
    have x14 := X1.out.cell (j := 4) rfl
    have x15 := X1.out.cell (j := 5) rfl
    have hl2 := (entsSmall hnn).1
    have HSM := hid (entsSmall hnn).2
    clear b1 cSz HB HX hf
    go_wp2_with fail
    refine (toJour_any n tm vt s t ao l cap hl2 _ (HA.out.on B1.out)).mono ?_
    rintro e w2 ⟨g2, hg2, rfl, k2, b2⟩
    have B2 := hid (below_via B1.out b2)
    have X2 := hid (X1.out.on b2 X1.out.lt)
    have x20 := X2.out.cell (j := 0) rfl
    have x21 := X2.out.cell (j := 1) rfl
    have x22 := X2.out.cell (j := 2) rfl
    have x23 := X2.out.cell (j := 3) rfl
    have x24 := X2.out.cell (j := 4) rfl
    have x25 := X2.out.cell (j := 5) rfl
    have F2 := hid (entsAt_of (l := l) (r := []) (by rw [List.append_nil]; exact k2))
    clear b2 k2 x10 x11 x12 x13 x14 x15 X1 hg2
    go_wp2_with fail
    refine (specJournalOk_any n tm vt s t _ l l.length hl2 HSM.out _ F2.out).mono ?_
    rintro e w3 ⟨rfl, b3⟩
    have B3 := hid (below_via B2.out b3)
    have X3 := hid (X2.out.on b3 X2.out.lt)
    have x30 := X3.out.cell (j := 0) rfl
    have x31 := X3.out.cell (j := 1) rfl
    have x32 := X3.out.cell (j := 2) rfl
    have x33 := X3.out.cell (j := 3) rfl
    have x34 := X3.out.cell (j := 4) rfl
    have x35 := X3.out.cell (j := 5) rfl
    clear b3 x20 x21 x22 x23 x24 x25 X2 F2
    generalize hr : jourOk n tm vt s t l = r
    have HR := hid hr
    clear hr
    go_wp2_with fail
    refine (toJour_any n tm vt s t ao l cap hl2 _ (HA.out.on B3.out)).mono ?_
    rintro e w4 ⟨g4, hg4, rfl, k4, b4⟩
    have B4 := hid (below_via B3.out b4)
    have X4 := hid (X3.out.on b4 X3.out.lt)
    have x40 := X4.out.cell (j := 0) rfl
    have x41 := X4.out.cell (j := 1) rfl
    have x42 := X4.out.cell (j := 2) rfl
    have x43 := X4.out.cell (j := 3) rfl
    have x44 := X4.out.cell (j := 4) rfl
    have x45 := X4.out.cell (j := 5) rfl
    have F4 := hid (entsAt_of (l := l) (r := []) (by rw [List.append_nil]; exact k4))
    clear b4 k4 x30 x31 x32 x33 x34 x35 X3 hg4
    have hb5 := below_more (Below.refl w4.heap.size w4) (.cells #[.int .i64 n, .int .i64 tm, .int .i64 vt, .int .i64 s, .int .i64 t, .slice (some ⟨g4, 0, none⟩) l.length l.length] 61)
    have hx5 : BlockIs (w4.alloc (.cells #[.int .i64 n, .int .i64 tm, .int .i64 vt, .int .i64 s, .int .i64 t, .slice (some ⟨g4, 0, none⟩) l.length l.length] 61)) w4.heap.size 61 [.int .i64 n, .int .i64 tm, .int .i64 vt, .int .i64 s, .int .i64 t, .slice (some ⟨g4, 0, none⟩) l.length l.length] := heap_alloc_new w4 _
    have hX5 := X4.out.on hb5 X4.out.lt
    have hF5 := F4.out.on hb5
    have H5 := hid (And.intro hb5 (And.intro hx5 (And.intro hX5 hF5)))
    clear hb5 hx5 hX5 hF5 F4
    go_wp2_with fail
    refine (implJournalOk_any n tm vt s t _ l l.length hl2 _ H5.out.2.2.2).mono ?_
    rintro e w6 ⟨rfl, b6⟩
    rw [HR.out]
    have B6 := hid (below_via B4.out (below_via H5.out.1 b6))
    have X6 := hid (H5.out.2.2.1.on b6 H5.out.2.2.1.lt)
    have x60 := X6.out.cell (j := 0) rfl
    have x61 := X6.out.cell (j := 1) rfl
    have x62 := X6.out.cell (j := 2) rfl
    have x63 := X6.out.cell (j := 3) rfl
    have x64 := X6.out.cell (j := 4) rfl
    have x65 := X6.out.cell (j := 5) rfl
    have Y6 := hid (H5.out.2.1.on b6 H5.out.2.1.lt)
    have y60 := Y6.out.cell (j := 0) rfl
    have y61 := Y6.out.cell (j := 1) rfl
    have y62 := Y6.out.cell (j := 2) rfl
    have y63 := Y6.out.cell (j := 3) rfl
    have y64 := Y6.out.cell (j := 4) rfl
    have y65 := Y6.out.cell (j := 5) rfl
    have F6 := hid (H5.out.2.2.2.on b6)
    have hle : l.length ≤ 140737488355328 := by omega
    have CT : Hid (Calls Try.prog 33 #[.agg #[.int .i64 n, .int .i64 tm, .int .i64 vt, .int .i64 s, .int .i64 t, .slice ao l.length cap]] w6.drew fun e w7 => ∃ g7, e = .returned (.agg #[.int .i64 n, .int .i64 tm, .int .i64 vt, .int .i64 s, .int .i64 t, .slice (some ⟨g7, 0, none⟩) l.length l.length]) ∧ (w7.cell? ⟨w4.heap.size, 0, none⟩ = some (.int .i64 n) ∧ w7.cell? ⟨w4.heap.size, 1, none⟩ = some (.int .i64 tm) ∧ w7.cell? ⟨w4.heap.size, 2, none⟩ = some (.int .i64 vt) ∧ w7.cell? ⟨w4.heap.size, 3, none⟩ = some (.int .i64 s) ∧ w7.cell? ⟨w4.heap.size, 4, none⟩ = some (.int .i64 t) ∧ w7.cell? ⟨w4.heap.size, 5, none⟩ = some (.slice (some ⟨g4, 0, none⟩) l.length l.length)) ∧ Hid (Below w.heap.size w w7 ∧ EntsAt w7 (some ⟨g4, 0, none⟩) l ∧ EntsAt w7 (some ⟨g7, 0, none⟩) l)) := by
      have hd : Below w6.heap.size w6 w6.drew := below_drewN (Below.refl _ _) 1
      refine Calls.mono (toJour_any n tm vt s t ao l cap hl2 w6.drew (HA.out.on (below_via B6.out hd))) ?_
      rintro e w7 ⟨g7, _, rfl, k7, b7⟩
      have h67 := below_via hd b7
      have k6 := Y6.out.on h67 Y6.out.lt
      exact ⟨g7, rfl, ⟨k6.cell (j := 0) rfl, k6.cell (j := 1) rfl, k6.cell (j := 2) rfl, k6.cell (j := 3) rfl, k6.cell (j := 4) rfl, k6.cell (j := 5) rfl⟩, below_via B6.out h67, F6.out.on h67, entsAt_of (r := []) (by rw [List.append_nil]; exact k7)⟩
    clear b6 H5 X4 x40 x41 x42 x43 x44 x45 B3 B2 B1 B4
    go_wp2
    go_region_with (first | (go_at_call 33; refine Calls.mono CT.out ?_; rintro e w7 ⟨g7, rfl, ⟨y70, y71, y72, y73, y74, y75⟩, H7⟩) | (go_at_call 35; refine (eqJour_same n tm vt s t _ _ l _ _ hle _ H7.out.2.1 H7.out.2.2).mono ?_; rintro e w8 ⟨rfl, b8⟩))
    all_goals
      have B8 := hid (below_via H7.out.1 b8)
      clear b8 H7
      go_wp2
      go_ret
      exact ⟨rfl, B8.out⟩

theorem own : ownKnob Try.prog.godebug = none := by kernel_rfl
theorem laidOut : laidOutB Try.prog = true := by kernel_rfl
theorem rowed : varsRowed Try.prog Rows.fnExactJournalOkSpec.vars = true := by kernel_rfl
set_option maxRecDepth 1000000 in
theorem contract (H : Type) (enc : TypeId × Value → H) (W : World) (base : Nat) (args : Array Value) (ds gs : List (DataW H)) (before : List MemPlace)
    (hval : ∀ (j : Nat) t v, Try.f8.params[j]? = some t → args[j]? = some v → Value.okWide Try.prog W .any base t v)
    (hW : DataW.Whole enc Try.prog Try.f8.params.toList Rows.fnExactJournalOkSpec.vars false W args.toList ds gs before) (_hL : laidMetH Try.prog Rows.fnExactJournalOkRow.laid W) :
    Calls Try.prog 8 args W fun e W' => ∃ v, e = .returned v ∧ Rows.fnExactJournalOkSpec.post enc Try.prog Try.f8 false true false false W args v W' := by
  have hW' := hW
  obtain ⟨p, q, hA0, hV0, rfl, hfz, hnd⟩ := hW
  have hV : DataW.TrodVars enc Try.prog W (fun _ => true) Rows.fnExactJournalOkSpec.vars gs q := hV0
  have hA : DataW.TrodAll enc Try.prog W 0 (fun _ => true) true Try.f8.params.toList args.toList ds p := hA0
  rw [Try.params8] at hA hval
  obtain ⟨v0, vs0, d0, ds0, p0, q0, hargs0, rfl, rfl, h0, r0⟩ := trodAll_cons hA
  obtain ⟨rfl, rfl, rfl⟩ := trodAll_nil r0
  obtain rfl : args = #[v0] := by cases args; simp_all
  have k0 := h0
  have lt0 : ∀ x ∈ p0, x.block < W.heap.size := by obtain ⟨m, hm⟩ := k0; exact DataW.trod_lt m _ _ _ hm
  obtain ⟨n0, tm0, vt0, s0, t0, a0, l0, cap0, rfl, hn0, htm0, hvt0, hs0, ht0, hc0, hm0, hat0, hfit0⟩ := open_jour (hval 0 57 v0 rfl rfl) h0
  clear hA0 hV0
  obtain ⟨rfl, rfl⟩ := trodVars_none hV
  refine (walk n0 tm0 vt0 s0 t0 hn0 htm0 hvt0 hs0 ht0 a0 l0 cap0 (Nat.le_trans hc0 hm0) hfit0 W hat0).mono fun e W' ⟨he, bel⟩ => ?_
  subst he
  exact ⟨_, rfl, _, _, _, [], _, [], hW', trodAll_mk1 (shut_bool Try.underlying4 _), trodAll_cons_mk (Below.trod laidOut (by kernel_rfl) (of_decide_eq_true (by kernel_rfl)) k0 bel lt0) (trodAll_mk0), rfl, bel.frame _, fun h => by cases h⟩

def put (cs : Array Value) : Obj → Obj
  | .cells _ t frozen => .cells cs t frozen
  | o => o

/-- a world for the witness: the tables hold what their initialisers lay -/
def laidWorld (w : World) : World := { w with heap := w.heap }
theorem laid_met (os : Os) : laidMet Try.prog Rows.fnExactJournalOkRow.laid ((laidWorld (World.holding Try.prog os ⟨#[], #[], []⟩)).forCall (fun _ _ => 0) ⟨#[], #[.agg #[.int .i64 0, .int .i64 0, .int .i64 0, .int .i64 0, .int .i64 0, .slice none 0 0]], []⟩).memory :=
  laidMet_of_run' 8 (by kernel_rfl) (by kernel_rfl)
theorem reads (os : Os) {H : Type} (enc : TypeId × Value → H) : ∃ places, DataW.whole enc Try.prog ((laidWorld (World.holding Try.prog os ⟨#[], #[], []⟩)).forCall (fun _ _ => 0) ⟨#[], #[.agg #[.int .i64 0, .int .i64 0, .int .i64 0, .int .i64 0, .int .i64 0, .slice none 0 0]], []⟩).memory Try.f8.params.toList Rows.fnExactJournalOkSpec.vars false #[Value.agg #[.int .i64 0, .int .i64 0, .int .i64 0, .int .i64 0, .int .i64 0, .slice none 0 0]].toList 8 = some ([.agg [.lit (.int .i64 0), .lit (.int .i64 0), .lit (.int .i64 0), .agg [.lit (.int .i64 0), .lit (.int .i64 0), .nil]]], [], places) :=
  ⟨[], by kernel_rfl⟩

set_option maxRecDepth 1000000 in
theorem lifted (os : Os) (started : os.Started) (H : Type) (enc : TypeId × Value → H) (F : Stop.Interp) :
    ReturnsInHanded {} Try.checked os 8 .any ((OpenSpec.ofChange Rows.fnExactJournalOkSpec).preRow enc Try.prog Try.f8 Rows.fnExactJournalOkRow.domain false Rows.fnExactJournalOkRow.laid) (((OpenSpec.ofChange Rows.fnExactJournalOkSpec).at F).post enc Try.prog Try.f8 false true false false) := by
  obtain ⟨places, hx⟩ := reads os enc
  refine returnsInHanded_of_row (C := Try.checked) (s := OpenSpec.ofChange Rows.fnExactJournalOkSpec) own started (by kernel_rfl) Try.func8
    (witness_row_at (enc := enc) (C := Try.checked) false (laidWorld (World.holding Try.prog os ⟨#[], #[], []⟩)) #[.agg #[.int .i64 0, .int .i64 0, .int .i64 0, .int .i64 0, .int .i64 0, .slice none 0 0]] rfl (by kernel_rfl) (by kernel_rfl) (by kernel_rfl)
      (OpenSpec.preRow_of_cond 8 hx (by kernel_rfl) (fun k hk => by cases hk) (by kernel_rfl) (laid_met os))) ?_
  intro W base args ds gs before hval hW _ _ _ hL _ _
  exact contract H enc W base args ds gs before hval hW hL

theorem said : Rows.FnExactJournalOkSaid :=
  OpenClaim.holds_of_cond 8 Try.f8 rfl rfl rfl rfl rfl rfl rfl ⟨rfl, rfl, rfl, rfl, rfl⟩ rfl rfl rfl rfl rfl (by kernel_rfl) Try.func8 (by kernel_rfl)
    (of_decide_eq_true (by kernel_rfl)) (by unfold Func.isWrapper; first | (rw [if_pos (by decide +kernel)]; kernel_rfl) | (rw [if_neg (by decide +kernel)]; exact ⟨rfl, rfl⟩))
    (fun os started H enc _ F => by rw [OpenClaim.pre_eq_preRow]; exact lifted os started H enc F)

end Go.Proofs.Ytjkgjnpifdafaaa.fnExactJournalOk
