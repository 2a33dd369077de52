/-
  laws.FnExactKeepNew returns true: impl.KeepNew and spec.KeepNew answer alike; the answer owns its memory; nothing that was in memory is written.
-/
import Derived.Test.YtmponhgkpkaooaaRows
import Derived.Test.YtmponhgkpkaooaaKeepNewB
import Derived.Test.YtmponhgkpkaooaaKeepMark1
import Derived.WalkSmall
import Derived.WalkKit
import Derived.ProofKit
import Derived.OpenShut
import Derived.OpenVars
import Derived.Deep.DeepHandedRow
import Derived.Lib.LaidTab
import Derived.Stop.LaidErr
namespace Go.Proofs.Ytmponhgkpkaooaa.fnExactKeepNew
open Go.ChangeShapes Go.WideShapes Go.ChangeAt Go.ChangeMaps Go.RowKit

set_option maxRecDepth 1000000 in
set_option maxHeartbeats 1000000 in
theorem walk (w : World) :
    Calls Try.prog 3 #[] w fun e w' => e = .returned (.bool true) ∧ Below w.heap.size w w' := by
  go_enter Try.func3, Try.ntmps3
  go_wp2_with fail
  refine (specKeepNew_any _).mono ?_
  rintro e v1 ⟨g1, rfl, hg1, hk1, b1⟩
  rw [rootCells] at hk1
  obtain ⟨u1, hu1⟩ : ∃ u, v1.alloc (.cells #[.slice none 0 0, .slice (some ⟨g1, 0, none⟩) 1 1] 25) = u := ⟨_, rfl⟩
  have c1 : Below v1.heap.size v1 u1 := by rw [← hu1]; exact below_more (Below.refl _ _) _
  have x1 : BlockIs u1 v1.heap.size 25 [.slice none 0 0, .slice (some ⟨g1, 0, none⟩) 1 1] := by rw [← hu1]; exact heap_alloc_new v1 _
  have hs1 := x1.lt
  have N1 := hid (And.intro hg1 (And.intro hk1.lt hs1))
  have HK1 := hid (hk1.on c1 hk1.lt)
  have HX1 := hid x1
  have B1 := hid (below_via b1 c1)
  clear b1 c1 hk1 hg1 x1 hs1
  go_wp2_with fail
  refine (implKeepNew_any _).mono ?_
  rintro e v2 ⟨g2, rfl, hg2, hk2, b2⟩
  rw [rootCells] at hk2
  have nHK1 := HK1.out.on b2 HK1.out.lt
  clear HK1
  have HK1 := hid nHK1
  clear nHK1
  have nHX1 := HX1.out.on b2 HX1.out.lt
  clear HX1
  have HX1 := hid nHX1
  clear nHX1
  obtain ⟨u2, hu2⟩ : ∃ u, v2.alloc (.cells #[.slice none 0 0, .slice (some ⟨g2, 0, none⟩) 1 1] 25) = u := ⟨_, rfl⟩
  have c2 : Below v2.heap.size v2 u2 := by rw [← hu2]; exact below_more (Below.refl _ _) _
  have x2 : BlockIs u2 v2.heap.size 25 [.slice none 0 0, .slice (some ⟨g2, 0, none⟩) 1 1] := by rw [← hu2]; exact heap_alloc_new v2 _
  have nHK1 := HK1.out.on c2 HK1.out.lt
  clear HK1
  have HK1 := hid nHK1
  clear nHK1
  have nHX1 := HX1.out.on c2 HX1.out.lt
  clear HX1
  have HX1 := hid nHX1
  clear nHX1
  have hs2 := x2.lt
  have N2 := hid (And.intro hg2 (And.intro hk2.lt hs2))
  have HK2 := hid (hk2.on c2 hk2.lt)
  have HX2 := hid x2
  have B2 := hid (below_via (below_via B1.out b2) c2)
  clear b2 c2 hk2 hg2 x2 hs2
  clear hu1
  have x10 := HX1.out.cell (j := 0) rfl
  have x11 := HX1.out.cell (j := 1) rfl
  have x20 := HX2.out.cell (j := 0) rfl
  have x21 := HX2.out.cell (j := 1) rfl
  go_wp2_with fail
  refine (eqKeep_one g2 g1 _ HK2.out HK1.out).mono ?_
  rintro e w3 ⟨rfl, b3⟩
  have B3 := hid (below_via B2.out b3)
  clear x10 x11 x20 x21
  have nHK1 := HK1.out.on b3 HK1.out.lt
  clear HK1
  have HK1 := hid nHK1
  clear nHK1
  have nHX1 := HX1.out.on b3 HX1.out.lt
  clear HX1
  have HX1 := hid nHX1
  clear nHX1
  have nHK2 := HK2.out.on b3 HK2.out.lt
  clear HK2
  have HK2 := hid nHK2
  clear nHK2
  have nHX2 := HX2.out.on b3 HX2.out.lt
  clear HX2
  have HX2 := hid nHX2
  clear nHX2
  clear b3 hu2
  have x20 := HX2.out.cell (j := 0) rfl
  have x21 := HX2.out.cell (j := 1) rfl
  go_wp2_with fail
  refine (markKeep_one g2 _ HK2.out).mono ?_
  rintro e w4 ⟨rfl, k4, gr4⟩
  obtain ⟨q1, q2, q3⟩ := N1.out
  obtain ⟨q4, q5, q6⟩ := N2.out
  have nHK1 := grown_block gr4 HK1.out (by omega)
  clear HK1
  have HK1 := hid nHK1
  clear nHK1
  have nHX1 := grown_block gr4 HX1.out (by omega)
  clear HX1
  have HX1 := hid nHX1
  clear nHX1
  have nHX2 := grown_block gr4 HX2.out (by omega)
  clear HX2
  have HX2 := hid nHX2
  clear nHX2
  have B4 := hid (grown_below gr4 B3.out (by omega))
  have HM := hid k4
  clear x20 x21
  clear k4 gr4 q1 q2 q3 q4 q5 q6 HK2
  have x20 := HX2.out.cell (j := 0) rfl
  have x21 := HX2.out.cell (j := 1) rfl
  go_wp2_with fail
  refine (heldKeep_one g2 _ (itemsAt_of (r := []) (by rw [List.append_nil]; exact HM.out))).mono ?_
  rintro e w5 ⟨rfl, b5⟩
  have B5 := hid (below_via B4.out b5)
  clear x20 x21
  have nHK1 := HK1.out.on b5 HK1.out.lt
  clear HK1
  have HK1 := hid nHK1
  clear nHK1
  have nHX1 := HX1.out.on b5 HX1.out.lt
  clear HX1
  have HX1 := hid nHX1
  clear nHX1
  have nHX2 := HX2.out.on b5 HX2.out.lt
  clear HX2
  have HX2 := hid nHX2
  clear nHX2
  have nHM := HM.out.on b5 HM.out.lt
  clear HM
  have HM := hid nHM
  clear nHM
  clear b5
  go_wp2_with fail
  refine (implKeepNew_any _).mono ?_
  rintro e v6 ⟨g6, rfl, hg6, hk6, b6⟩
  rw [rootCells] at hk6
  have nHK1 := HK1.out.on b6 HK1.out.lt
  clear HK1
  have HK1 := hid nHK1
  clear nHK1
  have nHX1 := HX1.out.on b6 HX1.out.lt
  clear HX1
  have HX1 := hid nHX1
  clear nHX1
  have nHX2 := HX2.out.on b6 HX2.out.lt
  clear HX2
  have HX2 := hid nHX2
  clear nHX2
  have nHM := HM.out.on b6 HM.out.lt
  clear HM
  have HM := hid nHM
  clear nHM
  obtain ⟨u6, hu6⟩ : ∃ u, v6.alloc (.cells #[.slice none 0 0, .slice (some ⟨g6, 0, none⟩) 1 1] 25) = u := ⟨_, rfl⟩
  have c6 : Below v6.heap.size v6 u6 := by rw [← hu6]; exact below_more (Below.refl _ _) _
  have x6 : BlockIs u6 v6.heap.size 25 [.slice none 0 0, .slice (some ⟨g6, 0, none⟩) 1 1] := by rw [← hu6]; exact heap_alloc_new v6 _
  have nHK1 := HK1.out.on c6 HK1.out.lt
  clear HK1
  have HK1 := hid nHK1
  clear nHK1
  have nHX1 := HX1.out.on c6 HX1.out.lt
  clear HX1
  have HX1 := hid nHX1
  clear nHX1
  have nHX2 := HX2.out.on c6 HX2.out.lt
  clear HX2
  have HX2 := hid nHX2
  clear nHX2
  have nHM := HM.out.on c6 HM.out.lt
  clear HM
  have HM := hid nHM
  clear nHM
  have hs6 := x6.lt
  have N6 := hid (And.intro hg6 (And.intro hk6.lt hs6))
  have HK6 := hid (hk6.on c6 hk6.lt)
  have HX6 := hid x6
  have B6 := hid (below_via (below_via B5.out b6) c6)
  clear b6 c6 hk6 hg6 x6 hs6
  have x10 := HX1.out.cell (j := 0) rfl
  have x11 := HX1.out.cell (j := 1) rfl
  have x60 := HX6.out.cell (j := 0) rfl
  have x61 := HX6.out.cell (j := 1) rfl
  go_wp2_with fail
  refine (eqKeep_one g6 g1 _ HK6.out HK1.out).mono ?_
  rintro e w7 ⟨rfl, b7⟩
  have B7 := hid (below_via B6.out b7)
  clear x10 x11 x60 x61
  have nHX2 := HX2.out.on b7 HX2.out.lt
  clear HX2
  have HX2 := hid nHX2
  clear nHX2
  have nHM := HM.out.on b7 HM.out.lt
  clear HM
  have HM := hid nHM
  clear nHM
  clear b7 hu6
  have x20 := HX2.out.cell (j := 0) rfl
  have x21 := HX2.out.cell (j := 1) rfl
  go_wp2_with fail
  refine (heldKeep_one g2 _ (itemsAt_of (r := []) (by rw [List.append_nil]; exact HM.out))).mono ?_
  rintro e w8 ⟨rfl, b8⟩
  have B8 := hid (below_via B7.out b8)
  clear b8
  go_wp2
  go_ret
  exact ⟨rfl, B8.out⟩

theorem own : ownKnob Try.prog.godebug = none := by kernel_rfl
theorem laidOut : laidOutB Try.prog = true := by kernel_rfl
theorem rowed : varsRowed Try.prog Rows.fnExactKeepNewSpec.vars = true := by kernel_rfl
set_option maxRecDepth 1000000 in
theorem contract (H : Type) (enc : TypeId × Value → H) (W : World) (base : Nat) (args : Array Value) (ds gs : List (DataW H)) (before : List MemPlace)
    (hval : ∀ (j : Nat) t v, Try.f3.params[j]? = some t → args[j]? = some v → Value.okWide Try.prog W .any base t v)
    (hW : DataW.Whole enc Try.prog Try.f3.params.toList Rows.fnExactKeepNewSpec.vars false W args.toList ds gs before) (_hL : laidMetH Try.prog Rows.fnExactKeepNewRow.laid W) :
    Calls Try.prog 3 args W fun e W' => ∃ v, e = .returned v ∧ Rows.fnExactKeepNewSpec.post enc Try.prog Try.f3 false true false false W args v W' := by
  have hW' := hW
  obtain ⟨p, q, hA0, hV0, rfl, hfz, hnd⟩ := hW
  have hV : DataW.TrodVars enc Try.prog W (fun _ => true) Rows.fnExactKeepNewSpec.vars gs q := hV0
  have hA : DataW.TrodAll enc Try.prog W 0 (fun _ => true) true Try.f3.params.toList args.toList ds p := hA0
  rw [Try.params3] at hA hval
  obtain ⟨hargs, rfl, rfl⟩ := trodAll_nil hA
  obtain rfl : args = #[] := by cases args; simp_all
  clear hA0 hV0
  obtain ⟨rfl, rfl⟩ := trodVars_none hV
  refine (walk  W ).mono fun e W' ⟨he, bel⟩ => ?_
  subst he
  exact ⟨_, rfl, _, _, _, [], _, [], hW', trodAll_mk1 (shut_bool Try.underlying4 _), trodAll_mk0, rfl, bel.frame _, fun h => by cases h⟩

def put (cs : Array Value) : Obj → Obj
  | .cells _ t frozen => .cells cs t frozen
  | o => o

/-- a world for the witness: the tables hold what their initialisers lay -/
def laidWorld (w : World) : World := { w with heap := w.heap }
theorem laid_met (os : Os) : laidMet Try.prog Rows.fnExactKeepNewRow.laid ((laidWorld (World.holding Try.prog os ⟨#[], #[], []⟩)).forCall (fun _ _ => 0) ⟨#[], #[], []⟩).memory :=
  laidMet_of_run' 8 (by kernel_rfl) (by kernel_rfl)
theorem reads (os : Os) {H : Type} (enc : TypeId × Value → H) : ∃ places, DataW.whole enc Try.prog ((laidWorld (World.holding Try.prog os ⟨#[], #[], []⟩)).forCall (fun _ _ => 0) ⟨#[], #[], []⟩).memory Try.f3.params.toList Rows.fnExactKeepNewSpec.vars false #[].toList 8 = some ([], [], places) :=
  ⟨[], by kernel_rfl⟩

set_option maxRecDepth 1000000 in
theorem lifted (os : Os) (started : os.Started) (H : Type) (enc : TypeId × Value → H) (F : Stop.Interp) :
    ReturnsInHanded {} Try.checked os 3 .any ((OpenSpec.ofChange Rows.fnExactKeepNewSpec).preRow enc Try.prog Try.f3 Rows.fnExactKeepNewRow.domain false Rows.fnExactKeepNewRow.laid) (((OpenSpec.ofChange Rows.fnExactKeepNewSpec).at F).post enc Try.prog Try.f3 false true false false) := by
  obtain ⟨places, hx⟩ := reads os enc
  refine returnsInHanded_of_row (C := Try.checked) (s := OpenSpec.ofChange Rows.fnExactKeepNewSpec) own started (by kernel_rfl) Try.func3
    (witness_row_at (enc := enc) (C := Try.checked) false (laidWorld (World.holding Try.prog os ⟨#[], #[], []⟩)) #[] rfl (by kernel_rfl) (by kernel_rfl) (by kernel_rfl)
      (OpenSpec.preRow_of_cond 8 hx (by kernel_rfl) (fun k hk => by cases hk) (by kernel_rfl) (laid_met os))) ?_
  intro W base args ds gs before hval hW _ _ _ hL _ _
  exact contract H enc W base args ds gs before hval hW hL

theorem said : Rows.FnExactKeepNewSaid :=
  OpenClaim.holds_of_cond 3 Try.f3 rfl rfl rfl rfl rfl rfl rfl ⟨rfl, rfl, rfl, rfl, rfl⟩ rfl rfl rfl rfl rfl (by kernel_rfl) Try.func3 (by kernel_rfl)
    (of_decide_eq_true (by kernel_rfl)) (by unfold Func.isWrapper; first | (rw [if_pos (by decide +kernel)]; kernel_rfl) | (rw [if_neg (by decide +kernel)]; exact ⟨rfl, rfl⟩))
    (fun os started H enc _ F => by rw [OpenClaim.pre_eq_preRow]; exact lifted os started H enc F)

end Go.Proofs.Ytmponhgkpkaooaa.fnExactKeepNew
