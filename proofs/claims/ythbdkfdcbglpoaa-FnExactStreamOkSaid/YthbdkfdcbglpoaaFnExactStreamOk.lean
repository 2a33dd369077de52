/-
  For every stream, laws.FnExactStreamOk returns true: impl.StreamOk and spec.StreamOk answer alike; nothing that was in memory is written.
-/
import Derived.Test.YthbdkfdcbglpoaaRows
import Derived.Test.YthbdkfdcbglpoaaOpenStr
import Derived.Test.YthbdkfdcbglpoaaSzStr
import Derived.Test.YthbdkfdcbglpoaaToStr
import Derived.Test.YthbdkfdcbglpoaaEqStr
import Derived.Test.YthbdkfdcbglpoaaStrOkS
import Derived.Test.YthbdkfdcbglpoaaStrOkI
import Derived.Deep.RegionWith
import Derived.WalkSmall
import Derived.WalkKit
import Derived.ProofKit
import Derived.OpenShut
import Derived.OpenVars
import Derived.Deep.DeepHandedRow
import Derived.Lib.LaidTab
import Derived.Stop.LaidErr
namespace Go.Proofs.Ythbdkfdcbglpoaa.fnExactStreamOk
open Go.ChangeShapes Go.WideShapes Go.ChangeAt Go.ChangeMaps Go.RowKit

set_option maxRecDepth 1000000 in
set_option maxHeartbeats 4000000 in
theorem walk (d : StrD) (hd : d.Fits) (ao : Option Addr) (cap : Nat) (hl : d.late.length ≤ maxLen) (hf : LatesFit d.late) (w : World) (ha : LatesAt w ao d.late) :
    Calls Try.prog 4 #[.agg #[.int .i64 d.st, .int .i64 d.iss, .int .i64 d.una, .int .i64 d.rcv, .string d.wait, .int .i64 d.sent, .int .i64 d.fin, .bool d.pf, .string d.inn, .slice ao d.late.length cap, .bool d.owe, .int .i64 d.due, .int .i64 d.times]] w fun e w' => e = .returned (.bool true) ∧ Below w.heap.size w w' := by
  have HA := hid ha
  have cSz := hid (fun w ha => szStream_any d ao cap hd hl hf w ha)
  have HX := hid (show BlockIs (w.alloc (.cells #[.int .i64 d.st, .int .i64 d.iss, .int .i64 d.una, .int .i64 d.rcv, .string d.wait, .int .i64 d.sent, .int .i64 d.fin, .bool d.pf, .string d.inn, .slice ao d.late.length cap, .bool d.owe, .int .i64 d.due, .int .i64 d.times] 32)) w.heap.size 32 [.int .i64 d.st, .int .i64 d.iss, .int .i64 d.una, .int .i64 d.rcv, .string d.wait, .int .i64 d.sent, .int .i64 d.fin, .bool d.pf, .string d.inn, .slice ao d.late.length cap, .bool d.owe, .int .i64 d.due, .int .i64 d.times] from heap_alloc_new w _)
  have HB := hid (below_more (Below.refl w.heap.size w) (.cells #[.int .i64 d.st, .int .i64 d.iss, .int .i64 d.una, .int .i64 d.rcv, .string d.wait, .int .i64 d.sent, .int .i64 d.fin, .bool d.pf, .string d.inn, .slice ao d.late.length cap, .bool d.owe, .int .i64 d.due, .int .i64 d.times] 32))
  clear ha
  go_enter Try.func4, Try.ntmps4
  go_wp2_with fail
  refine (cSz.out _ (HA.out.on HB.out)).mono ?_
  rintro e w1 ⟨(⟨hneg, rfl⟩ | ⟨hnn, rfl⟩), b1⟩
  · have B1 := hid (below_via HB.out b1)
    clear b1 cSz HB HX hneg hf
    go_wp2
    go_ret
    exact ⟨rfl, B1.out⟩
  · have B1 := hid (below_via HB.out b1)
    have X1 := hid (HX.out.on b1 HX.out.lt)
    have x10 := X1.out.cell (j := 0) rfl
    have x11 := X1.out.cell (j := 1) rfl
    have x12 := X1.out.cell (j := 2) rfl
    have x13 := X1.out.cell (j := 3) rfl
    have x14 := X1.out.cell (j := 4) rfl
    have x15 := X1.out.cell (j := 5) rfl
    have x16 := X1.out.cell (j := 6) rfl
    have x17 := X1.out.cell (j := 7) rfl
    have x18 := X1.out.cell (j := 8) rfl
    have x19 := X1.out.cell (j := 9) rfl
    have x110 := X1.out.cell (j := 10) rfl
    have x111 := X1.out.cell (j := 11) rfl
    have x112 := X1.out.cell (j := 12) rfl
    have hl2 := (strSmall hnn).late
    have HSM := hid (strSmall hnn)
    have hpos := hnn
    clear b1 cSz HB HX hf
    go_wp2_with fail
    refine (toStream_any d ao cap hl2 _ (HA.out.on B1.out)).mono ?_
    rintro e w2 ⟨g2, hg2, rfl, k2, b2⟩
    have B2 := hid (below_via B1.out b2)
    have X2 := hid (X1.out.on b2 X1.out.lt)
    have x20 := X2.out.cell (j := 0) rfl
    have x21 := X2.out.cell (j := 1) rfl
    have x22 := X2.out.cell (j := 2) rfl
    have x23 := X2.out.cell (j := 3) rfl
    have x24 := X2.out.cell (j := 4) rfl
    have x25 := X2.out.cell (j := 5) rfl
    have x26 := X2.out.cell (j := 6) rfl
    have x27 := X2.out.cell (j := 7) rfl
    have x28 := X2.out.cell (j := 8) rfl
    have x29 := X2.out.cell (j := 9) rfl
    have x210 := X2.out.cell (j := 10) rfl
    have x211 := X2.out.cell (j := 11) rfl
    have x212 := X2.out.cell (j := 12) rfl
    have F2 := hid (latesAt_of (l := d.late) (r := []) (by rw [List.append_nil]; exact k2))
    clear b2 k2 x10 x11 x12 x13 x14 x15 x16 x17 x18 x19 x110 x111 x112 X1 hg2
    go_wp2_with fail
    refine (specStreamOk_any d _ _ HSM.out _ F2.out).mono ?_
    rintro e w3 ⟨rfl, b3⟩
    have B3 := hid (below_via B2.out b3)
    have X3 := hid (X2.out.on b3 X2.out.lt)
    have x30 := X3.out.cell (j := 0) rfl
    have x31 := X3.out.cell (j := 1) rfl
    have x32 := X3.out.cell (j := 2) rfl
    have x33 := X3.out.cell (j := 3) rfl
    have x34 := X3.out.cell (j := 4) rfl
    have x35 := X3.out.cell (j := 5) rfl
    have x36 := X3.out.cell (j := 6) rfl
    have x37 := X3.out.cell (j := 7) rfl
    have x38 := X3.out.cell (j := 8) rfl
    have x39 := X3.out.cell (j := 9) rfl
    have x310 := X3.out.cell (j := 10) rfl
    have x311 := X3.out.cell (j := 11) rfl
    have x312 := X3.out.cell (j := 12) rfl
    clear b3 x20 x21 x22 x23 x24 x25 x26 x27 x28 x29 x210 x211 x212 X2 F2
    generalize hr : strOk d = r
    have HR := hid hr
    clear hr
    go_wp2_with fail
    refine (toStream_any d ao cap hl2 _ (HA.out.on B3.out)).mono ?_
    rintro e w4 ⟨g4, hg4, rfl, k4, b4⟩
    have B4 := hid (below_via B3.out b4)
    have X4 := hid (X3.out.on b4 X3.out.lt)
    have x40 := X4.out.cell (j := 0) rfl
    have x41 := X4.out.cell (j := 1) rfl
    have x42 := X4.out.cell (j := 2) rfl
    have x43 := X4.out.cell (j := 3) rfl
    have x44 := X4.out.cell (j := 4) rfl
    have x45 := X4.out.cell (j := 5) rfl
    have x46 := X4.out.cell (j := 6) rfl
    have x47 := X4.out.cell (j := 7) rfl
    have x48 := X4.out.cell (j := 8) rfl
    have x49 := X4.out.cell (j := 9) rfl
    have x410 := X4.out.cell (j := 10) rfl
    have x411 := X4.out.cell (j := 11) rfl
    have x412 := X4.out.cell (j := 12) rfl
    have F4 := hid (latesAt_of (l := d.late) (r := []) (by rw [List.append_nil]; exact k4))
    clear b4 k4 x30 x31 x32 x33 x34 x35 x36 x37 x38 x39 x310 x311 x312 X3 hg4
    have hb5 := below_more (Below.refl w4.heap.size w4) (.cells #[.int .i64 d.st, .int .i64 d.iss, .int .i64 d.una, .int .i64 d.rcv, .string d.wait, .int .i64 d.sent, .int .i64 d.fin, .bool d.pf, .string d.inn, .slice (some ⟨g4, 0, none⟩) d.late.length d.late.length, .bool d.owe, .int .i64 d.due, .int .i64 d.times] 24)
    have hx5 : BlockIs (w4.alloc (.cells #[.int .i64 d.st, .int .i64 d.iss, .int .i64 d.una, .int .i64 d.rcv, .string d.wait, .int .i64 d.sent, .int .i64 d.fin, .bool d.pf, .string d.inn, .slice (some ⟨g4, 0, none⟩) d.late.length d.late.length, .bool d.owe, .int .i64 d.due, .int .i64 d.times] 24)) w4.heap.size 24 [.int .i64 d.st, .int .i64 d.iss, .int .i64 d.una, .int .i64 d.rcv, .string d.wait, .int .i64 d.sent, .int .i64 d.fin, .bool d.pf, .string d.inn, .slice (some ⟨g4, 0, none⟩) d.late.length d.late.length, .bool d.owe, .int .i64 d.due, .int .i64 d.times] := heap_alloc_new w4 _
    have hX5 := X4.out.on hb5 X4.out.lt
    have hF5 := F4.out.on hb5
    have H5 := hid (And.intro hb5 (And.intro hx5 (And.intro hX5 hF5)))
    clear hb5 hx5 hX5 hF5 F4
    go_wp2_with fail
    refine (implStreamOk_any d _ _ HSM.out _ H5.out.2.2.2).mono ?_
    rintro e w6 ⟨rfl, b6⟩
    rw [HR.out]
    have B6 := hid (below_via B4.out (below_via H5.out.1 b6))
    have X6 := hid (H5.out.2.2.1.on b6 H5.out.2.2.1.lt)
    have x60 := X6.out.cell (j := 0) rfl
    have x61 := X6.out.cell (j := 1) rfl
    have x62 := X6.out.cell (j := 2) rfl
    have x63 := X6.out.cell (j := 3) rfl
    have x64 := X6.out.cell (j := 4) rfl
    have x65 := X6.out.cell (j := 5) rfl
    have x66 := X6.out.cell (j := 6) rfl
    have x67 := X6.out.cell (j := 7) rfl
    have x68 := X6.out.cell (j := 8) rfl
    have x69 := X6.out.cell (j := 9) rfl
    have x610 := X6.out.cell (j := 10) rfl
    have x611 := X6.out.cell (j := 11) rfl
    have x612 := X6.out.cell (j := 12) rfl
    have Y6 := hid (H5.out.2.1.on b6 H5.out.2.1.lt)
    have y60 := Y6.out.cell (j := 0) rfl
    have y61 := Y6.out.cell (j := 1) rfl
    have y62 := Y6.out.cell (j := 2) rfl
    have y63 := Y6.out.cell (j := 3) rfl
    have y64 := Y6.out.cell (j := 4) rfl
    have y65 := Y6.out.cell (j := 5) rfl
    have y66 := Y6.out.cell (j := 6) rfl
    have y67 := Y6.out.cell (j := 7) rfl
    have y68 := Y6.out.cell (j := 8) rfl
    have y69 := Y6.out.cell (j := 9) rfl
    have y610 := Y6.out.cell (j := 10) rfl
    have y611 := Y6.out.cell (j := 11) rfl
    have y612 := Y6.out.cell (j := 12) rfl
    have F6 := hid (H5.out.2.2.2.on b6)
    have hle : d.late.length ≤ 140737488355328 := by omega
    have CT : Hid (Calls Try.prog 16 #[.agg #[.int .i64 d.st, .int .i64 d.iss, .int .i64 d.una, .int .i64 d.rcv, .string d.wait, .int .i64 d.sent, .int .i64 d.fin, .bool d.pf, .string d.inn, .slice ao d.late.length cap, .bool d.owe, .int .i64 d.due, .int .i64 d.times]] w6.drew fun e w7 => ∃ g7, e = .returned (.agg #[.int .i64 d.st, .int .i64 d.iss, .int .i64 d.una, .int .i64 d.rcv, .string d.wait, .int .i64 d.sent, .int .i64 d.fin, .bool d.pf, .string d.inn, .slice (some ⟨g7, 0, none⟩) d.late.length d.late.length, .bool d.owe, .int .i64 d.due, .int .i64 d.times]) ∧ (w7.cell? ⟨w4.heap.size, 0, none⟩ = some (.int .i64 d.st) ∧ w7.cell? ⟨w4.heap.size, 1, none⟩ = some (.int .i64 d.iss) ∧ w7.cell? ⟨w4.heap.size, 2, none⟩ = some (.int .i64 d.una) ∧ w7.cell? ⟨w4.heap.size, 3, none⟩ = some (.int .i64 d.rcv) ∧ w7.cell? ⟨w4.heap.size, 4, none⟩ = some (.string d.wait) ∧ w7.cell? ⟨w4.heap.size, 5, none⟩ = some (.int .i64 d.sent) ∧ w7.cell? ⟨w4.heap.size, 6, none⟩ = some (.int .i64 d.fin) ∧ w7.cell? ⟨w4.heap.size, 7, none⟩ = some (.bool d.pf) ∧ w7.cell? ⟨w4.heap.size, 8, none⟩ = some (.string d.inn) ∧ w7.cell? ⟨w4.heap.size, 9, none⟩ = some (.slice (some ⟨g4, 0, none⟩) d.late.length d.late.length) ∧ w7.cell? ⟨w4.heap.size, 10, none⟩ = some (.bool d.owe) ∧ w7.cell? ⟨w4.heap.size, 11, none⟩ = some (.int .i64 d.due) ∧ w7.cell? ⟨w4.heap.size, 12, none⟩ = some (.int .i64 d.times)) ∧ Hid (Below w.heap.size w w7 ∧ LatesAt w7 (some ⟨g4, 0, none⟩) d.late ∧ LatesAt w7 (some ⟨g7, 0, none⟩) d.late)) := by
      have hd : Below w6.heap.size w6 w6.drew := below_drewN (Below.refl _ _) 1
      refine Calls.mono (toStream_any d ao cap hl2 w6.drew (HA.out.on (below_via B6.out hd))) ?_
      rintro e w7 ⟨g7, _, rfl, k7, b7⟩
      have h67 := below_via hd b7
      have k6 := Y6.out.on h67 Y6.out.lt
      exact ⟨g7, rfl, ⟨k6.cell (j := 0) rfl, k6.cell (j := 1) rfl, k6.cell (j := 2) rfl, k6.cell (j := 3) rfl, k6.cell (j := 4) rfl, k6.cell (j := 5) rfl, k6.cell (j := 6) rfl, k6.cell (j := 7) rfl, k6.cell (j := 8) rfl, k6.cell (j := 9) rfl, k6.cell (j := 10) rfl, k6.cell (j := 11) rfl, k6.cell (j := 12) rfl⟩, below_via B6.out h67, F6.out.on h67, latesAt_of (r := []) (by rw [List.append_nil]; exact k7)⟩
    clear b6 H5 X4 x40 x41 x42 x43 x44 x45 x46 x47 x48 x49 x410 x411 x412 B3 B2 B1 B4
    go_wp2
    go_region_with (first | (go_at_call 16; refine Calls.mono CT.out ?_; rintro e w7 ⟨g7, rfl, ⟨y70, y71, y72, y73, y74, y75, y76, y77, y78, y79, y710, y711, y712⟩, H7⟩) | (go_at_call 11; refine (eqStream_same d _ _ _ _ hle _ H7.out.2.1 H7.out.2.2).mono ?_; rintro e w8 ⟨rfl, b8⟩))
    all_goals
      have B8 := hid (below_via H7.out.1 b8)
      clear b8 H7
      go_wp2
      go_ret
      exact ⟨rfl, B8.out⟩

theorem own : ownKnob Try.prog.godebug = none := by kernel_rfl
theorem laidOut : laidOutB Try.prog = true := by kernel_rfl
theorem rowed : varsRowed Try.prog Rows.fnExactStreamOkSpec.vars = true := by kernel_rfl
set_option maxRecDepth 1000000 in
theorem contract (H : Type) (enc : TypeId × Value → H) (W : World) (base : Nat) (args : Array Value) (ds gs : List (DataW H)) (before : List MemPlace)
    (hval : ∀ (j : Nat) t v, Try.f4.params[j]? = some t → args[j]? = some v → Value.okWide Try.prog W .any base t v)
    (hW : DataW.Whole enc Try.prog Try.f4.params.toList Rows.fnExactStreamOkSpec.vars false W args.toList ds gs before) (_hL : laidMetH Try.prog Rows.fnExactStreamOkRow.laid W) :
    Calls Try.prog 4 args W fun e W' => ∃ v, e = .returned v ∧ Rows.fnExactStreamOkSpec.post enc Try.prog Try.f4 false true false false W args v W' := by
  have hW' := hW
  obtain ⟨p, q, hA0, hV0, rfl, hfz, hnd⟩ := hW
  have hV : DataW.TrodVars enc Try.prog W (fun _ => true) Rows.fnExactStreamOkSpec.vars gs q := hV0
  have hA : DataW.TrodAll enc Try.prog W 0 (fun _ => true) true Try.f4.params.toList args.toList ds p := hA0
  rw [Try.params4] at hA hval
  obtain ⟨v0, vs0, d0, ds0, p0, q0, hargs0, rfl, rfl, h0, r0⟩ := trodAll_cons hA
  obtain ⟨rfl, rfl, rfl⟩ := trodAll_nil r0
  obtain rfl : args = #[v0] := by cases args; simp_all
  have k0 := h0
  have lt0 : ∀ x ∈ p0, x.block < W.heap.size := by obtain ⟨m, hm⟩ := k0; exact DataW.trod_lt m _ _ _ hm
  obtain ⟨a0, ao0, cap0, rfl, hfd0, hc0, hm0, hat0, hfit0⟩ := open_str (hval 0 32 v0 rfl rfl) h0
  clear hA0 hV0
  obtain ⟨rfl, rfl⟩ := trodVars_none hV
  refine (walk a0 hfd0 ao0 cap0 (Nat.le_trans hc0 hm0) hfit0 W hat0).mono fun e W' ⟨he, bel⟩ => ?_
  subst he
  exact ⟨_, rfl, _, _, _, [], _, [], hW', trodAll_mk1 (shut_bool Try.underlying4 _), trodAll_cons_mk (Below.trod laidOut (by kernel_rfl) (of_decide_eq_true (by kernel_rfl)) k0 bel lt0) (trodAll_mk0), rfl, bel.frame _, fun h => by cases h⟩

def put (cs : Array Value) : Obj → Obj
  | .cells _ t frozen => .cells cs t frozen
  | o => o

/-- a world for the witness: the tables hold what their initialisers lay -/
def laidWorld (w : World) : World := { w with heap := w.heap }
theorem laid_met (os : Os) : laidMet Try.prog Rows.fnExactStreamOkRow.laid ((laidWorld (World.holding Try.prog os ⟨#[], #[], []⟩)).forCall (fun _ _ => 0) ⟨#[], #[.agg #[.int .i64 0, .int .i64 0, .int .i64 0, .int .i64 0, .string ByteArray.empty, .int .i64 0, .int .i64 0, .bool false, .string ByteArray.empty, .slice none 0 0, .bool false, .int .i64 0, .int .i64 0]], []⟩).memory :=
  laidMet_of_run' 8 (by kernel_rfl) (by kernel_rfl)
theorem reads (os : Os) {H : Type} (enc : TypeId × Value → H) : ∃ places, DataW.whole enc Try.prog ((laidWorld (World.holding Try.prog os ⟨#[], #[], []⟩)).forCall (fun _ _ => 0) ⟨#[], #[.agg #[.int .i64 0, .int .i64 0, .int .i64 0, .int .i64 0, .string ByteArray.empty, .int .i64 0, .int .i64 0, .bool false, .string ByteArray.empty, .slice none 0 0, .bool false, .int .i64 0, .int .i64 0]], []⟩).memory Try.f4.params.toList Rows.fnExactStreamOkSpec.vars false #[Value.agg #[.int .i64 0, .int .i64 0, .int .i64 0, .int .i64 0, .string ByteArray.empty, .int .i64 0, .int .i64 0, .bool false, .string ByteArray.empty, .slice none 0 0, .bool false, .int .i64 0, .int .i64 0]].toList 8 = some ([.agg [.lit (.int .i64 0), .lit (.int .i64 0), .lit (.int .i64 0), .lit (.int .i64 0), .lit (.string []), .lit (.int .i64 0), .lit (.int .i64 0), .lit (.bool false), .lit (.string []), .nil, .lit (.bool false), .lit (.int .i64 0), .lit (.int .i64 0)]], [], places) :=
  ⟨[], by kernel_rfl⟩

set_option maxRecDepth 1000000 in
theorem lifted (os : Os) (started : os.Started) (H : Type) (enc : TypeId × Value → H) (F : Stop.Interp) :
    ReturnsInHanded {} Try.checked os 4 .any ((OpenSpec.ofChange Rows.fnExactStreamOkSpec).preRow enc Try.prog Try.f4 Rows.fnExactStreamOkRow.domain false Rows.fnExactStreamOkRow.laid) (((OpenSpec.ofChange Rows.fnExactStreamOkSpec).at F).post enc Try.prog Try.f4 false true false false) := by
  obtain ⟨places, hx⟩ := reads os enc
  refine returnsInHanded_of_row (C := Try.checked) (s := OpenSpec.ofChange Rows.fnExactStreamOkSpec) own started (by kernel_rfl) Try.func4
    (witness_row_at (enc := enc) (C := Try.checked) false (laidWorld (World.holding Try.prog os ⟨#[], #[], []⟩)) #[.agg #[.int .i64 0, .int .i64 0, .int .i64 0, .int .i64 0, .string ByteArray.empty, .int .i64 0, .int .i64 0, .bool false, .string ByteArray.empty, .slice none 0 0, .bool false, .int .i64 0, .int .i64 0]] rfl (by kernel_rfl) (by kernel_rfl) (by kernel_rfl)
      (OpenSpec.preRow_of_cond 8 hx (by kernel_rfl) (fun k hk => by cases hk) (by kernel_rfl) (laid_met os))) ?_
  intro W base args ds gs before hval hW _ _ _ hL _ _
  exact contract H enc W base args ds gs before hval hW hL

theorem said : Rows.FnExactStreamOkSaid :=
  OpenClaim.holds_of_cond 4 Try.f4 rfl rfl rfl rfl rfl rfl rfl ⟨rfl, rfl, rfl, rfl, rfl⟩ rfl rfl rfl rfl rfl (by kernel_rfl) Try.func4 (by kernel_rfl)
    (of_decide_eq_true (by kernel_rfl)) (by unfold Func.isWrapper; first | (rw [if_pos (by decide +kernel)]; kernel_rfl) | (rw [if_neg (by decide +kernel)]; exact ⟨rfl, rfl⟩))
    (fun os started H enc _ F => by rw [OpenClaim.pre_eq_preRow]; exact lifted os started H enc F)

end Go.Proofs.Ythbdkfdcbglpoaa.fnExactStreamOk
