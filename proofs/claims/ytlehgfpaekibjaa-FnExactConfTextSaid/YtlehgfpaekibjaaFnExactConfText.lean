/-
  For every list of numbers, laws.FnExactConfText returns true: impl.ConfText and spec.ConfText answer alike, and no argument is written; nothing that was in memory is written.
-/
import Derived.Test.YtlehgfpaekibjaaRows
import Derived.Test.YtlehgfpaekibjaaConfTextS
import Derived.Test.YtlehgfpaekibjaaConfTextI
import Derived.Test.YtlehgfpaekibjaaIntS
import Derived.Test.YtlehgfpaekibjaaOpenInts
import Derived.WalkSmall
import Derived.WalkKit
import Derived.ProofKit
import Derived.OpenShut
import Derived.OpenVars
import Derived.Deep.DeepHandedRow
import Derived.Lib.LaidTab
import Derived.Stop.LaidErr
namespace Go.Proofs.Ytlehgfpaekibjaa.fnExactConfText
open Go.ChangeShapes Go.WideShapes Go.ChangeAt Go.ChangeMaps Go.RowKit

set_option maxRecDepth 1000000 in
set_option maxHeartbeats 1000000 in
theorem core (hI : ∀ (ao : Option Addr) (zs : List Int) (cap : Nat) (w : World), zs.length ≤ 1048576 → IntsAt w ao zs → Calls Try.prog 15 #[.slice ao zs.length cap] w fun e w' => e = .returned (.tuple #[.string (confText zs).1, .bool (confText zs).2]) ∧ Below w.heap.size w w')
    (lo : Option Addr) (zs : List Int) (lcap : Nat) (w : World) (hz : IntsAt w lo zs) :
    Calls Try.prog 5 #[.slice lo zs.length lcap] w fun e w' => e = .returned (.bool true) ∧ Below w.heap.size w w' := by
  have HZ := hid hz
  have HI := hid hI
  clear hz hI
  by_cases hbig : (1048576 : Int) < (zs.length : Int)
  · go_enter Try.func5, Try.ntmps5
    go_wp2
    go_ret
    exact ⟨rfl, Below.refl _ _⟩
  have hl : zs.length ≤ 1048576 := by omega
  obtain ⟨T, ok, hok⟩ : ∃ T ok, confText zs = (T, ok) := ⟨_, _, rfl⟩
  have HOK := hid hok
  clear hok
  go_enter Try.func5, Try.ntmps5
  go_wp2_with fail
  refine (toIntS_any lo zs lcap hl _ HZ.out).mono ?_
  rintro e w1 ⟨rfl, k1, b1⟩
  have cS := specConfText_any (some ⟨w.heap.size, 0, none⟩) zs zs.length hl w1 (intsAt_of (r := []) (by rw [List.append_nil]; exact k1))
  rw [HOK.out] at cS
  dsimp only at cS
  have CS := hid cS
  have B1 := hid b1
  clear k1 b1 cS
  go_wp2_with fail
  refine Calls.mono CS.out ?_
  rintro e w2 ⟨rfl, b2⟩
  have B2 := hid (below_via B1.out b2)
  clear b2 CS B1
  go_wp2_with fail
  refine (toIntS_any lo zs lcap hl _ (HZ.out.on B2.out)).mono ?_
  rintro e w3 ⟨rfl, k3, b3⟩
  have cI := HI.out (some ⟨w2.heap.size, 0, none⟩) zs zs.length w3 hl (intsAt_of (r := []) (by rw [List.append_nil]; exact k3))
  rw [HOK.out] at cI
  dsimp only at cI
  have CI := hid cI
  have K3 := hid k3
  have B3 := hid (below_via B2.out b3)
  clear k3 b3 cI B2
  go_wp2_with fail
  refine Calls.mono CI.out ?_
  rintro e w4 ⟨rfl, b4⟩
  have K4 := hid (K3.out.on b4 K3.out.lt)
  have B4 := hid (below_via B3.out b4)
  clear b4 CI K3 B3
  go_wp2_with fail
  refine (toIntS_any lo zs lcap hl _ (HZ.out.on B4.out)).mono ?_
  rintro e w5 ⟨rfl, k5, b5⟩
  have CE := hid (eqIntS_same (some ⟨w2.heap.size, 0, none⟩) (some ⟨w4.heap.size, 0, none⟩) zs zs.length zs.length (by omega) w5 (intsAt_of (r := []) (by rw [List.append_nil]; exact K4.out.on b5 K4.out.lt)) (intsAt_of (r := []) (by rw [List.append_nil]; exact k5)))
  have B5 := hid (below_via B4.out b5)
  clear k5 b5 K4 B4
  go_wp2_with fail
  refine Calls.mono CE.out ?_
  rintro e w6 ⟨rfl, b6⟩
  have B6 := hid (below_via B5.out b6)
  clear b6 CE B5
  go_wp2
  go_ret
  exact ⟨rfl, B6.out⟩

theorem walk (lo : Option Addr) (zs : List Int) (lcap : Nat) (_hzl : zs.length ≤ maxLen) (_hzf : IntsFit zs) (w : World) (hz : IntsAt w lo zs) :
    Calls Try.prog 5 #[.slice lo zs.length lcap] w fun e w' => e = .returned (.bool true) ∧ Below w.heap.size w w' :=
  core (fun ao zs cap w hl ha => implConfText_any ao zs cap hl w ha) lo zs lcap w hz

theorem own : ownKnob Try.prog.godebug = none := by kernel_rfl
theorem laidOut : laidOutB Try.prog = true := by kernel_rfl
theorem rowed : varsRowed Try.prog Rows.fnExactConfTextSpec.vars = true := by kernel_rfl
set_option maxRecDepth 1000000 in
theorem contract (H : Type) (enc : TypeId × Value → H) (W : World) (base : Nat) (args : Array Value) (ds gs : List (DataW H)) (before : List MemPlace)
    (hval : ∀ (j : Nat) t v, Try.f5.params[j]? = some t → args[j]? = some v → Value.okWide Try.prog W .any base t v)
    (hW : DataW.Whole enc Try.prog Try.f5.params.toList Rows.fnExactConfTextSpec.vars false W args.toList ds gs before) (_hL : laidMetH Try.prog Rows.fnExactConfTextRow.laid W) :
    Calls Try.prog 5 args W fun e W' => ∃ v, e = .returned v ∧ Rows.fnExactConfTextSpec.post enc Try.prog Try.f5 false true false false W args v W' := by
  have hW' := hW
  obtain ⟨p, q, hA0, hV0, rfl, hfz, hnd⟩ := hW
  have hV : DataW.TrodVars enc Try.prog W (fun _ => true) Rows.fnExactConfTextSpec.vars gs q := hV0
  have hA : DataW.TrodAll enc Try.prog W 0 (fun _ => true) true Try.f5.params.toList args.toList ds p := hA0
  rw [Try.params5] at hA hval
  obtain ⟨v0, vs0, d0, ds0, p0, q0, hargs0, rfl, rfl, h0, r0⟩ := trodAll_cons hA
  obtain ⟨rfl, rfl, rfl⟩ := trodAll_nil r0
  obtain rfl : args = #[v0] := by cases args; simp_all
  have k0 := h0
  have lt0 : ∀ x ∈ p0, x.block < W.heap.size := by obtain ⟨m, hm⟩ := k0; exact DataW.trod_lt m _ _ _ hm
  obtain ⟨a0, z0, cap0, rfl, hc0, hm0, hat0, hf0⟩ := open_intS (hval 0 32 v0 rfl rfl) h0
  clear hA0 hV0
  obtain ⟨rfl, rfl⟩ := trodVars_none hV
  refine (walk a0 z0 cap0 (Nat.le_trans hc0 hm0) hf0 W hat0).mono fun e W' ⟨he, bel⟩ => ?_
  subst he
  exact ⟨_, rfl, _, _, _, [], _, [], hW', trodAll_mk1 (shut_bool Try.underlying4 _), trodAll_cons_mk (Below.trod laidOut (by kernel_rfl) (of_decide_eq_true (by kernel_rfl)) k0 bel lt0) (trodAll_mk0), rfl, bel.frame _, fun h => by cases h⟩

def put (cs : Array Value) : Obj → Obj
  | .cells _ t frozen => .cells cs t frozen
  | o => o

/-- a world for the witness: the tables hold what their initialisers lay -/
def laidWorld (w : World) : World := { w with heap := w.heap }
theorem laid_met (os : Os) : laidMet Try.prog Rows.fnExactConfTextRow.laid ((laidWorld (World.holding Try.prog os ⟨#[], #[], []⟩)).forCall (fun _ _ => 0) ⟨#[], #[.slice none 0 0], []⟩).memory :=
  laidMet_of_run' 8 (by kernel_rfl) (by kernel_rfl)
theorem reads (os : Os) {H : Type} (enc : TypeId × Value → H) : ∃ places, DataW.whole enc Try.prog ((laidWorld (World.holding Try.prog os ⟨#[], #[], []⟩)).forCall (fun _ _ => 0) ⟨#[], #[.slice none 0 0], []⟩).memory Try.f5.params.toList Rows.fnExactConfTextSpec.vars false #[Value.slice none 0 0].toList 8 = some ([.nil], [], places) :=
  ⟨[], by kernel_rfl⟩

set_option maxRecDepth 1000000 in
theorem lifted (os : Os) (started : os.Started) (H : Type) (enc : TypeId × Value → H) (F : Stop.Interp) :
    ReturnsInHanded {} Try.checked os 5 .any ((OpenSpec.ofChange Rows.fnExactConfTextSpec).preRow enc Try.prog Try.f5 Rows.fnExactConfTextRow.domain false Rows.fnExactConfTextRow.laid) (((OpenSpec.ofChange Rows.fnExactConfTextSpec).at F).post enc Try.prog Try.f5 false true false false) := by
  obtain ⟨places, hx⟩ := reads os enc
  refine returnsInHanded_of_row (C := Try.checked) (s := OpenSpec.ofChange Rows.fnExactConfTextSpec) own started (by kernel_rfl) Try.func5
    (witness_row_at (enc := enc) (C := Try.checked) false (laidWorld (World.holding Try.prog os ⟨#[], #[], []⟩)) #[.slice none 0 0] rfl (by kernel_rfl) (by kernel_rfl) (by kernel_rfl)
      (OpenSpec.preRow_of_cond 8 hx (by kernel_rfl) (fun k hk => by cases hk) (by kernel_rfl) (laid_met os))) ?_
  intro W base args ds gs before hval hW _ _ _ hL _ _
  exact contract H enc W base args ds gs before hval hW hL

theorem said : Rows.FnExactConfTextSaid :=
  OpenClaim.holds_of_cond 5 Try.f5 rfl rfl rfl rfl rfl rfl rfl ⟨rfl, rfl, rfl, rfl, rfl⟩ rfl rfl rfl rfl rfl (by kernel_rfl) Try.func5 (by kernel_rfl)
    (of_decide_eq_true (by kernel_rfl)) (by unfold Func.isWrapper; first | (rw [if_pos (by decide +kernel)]; kernel_rfl) | (rw [if_neg (by decide +kernel)]; exact ⟨rfl, rfl⟩))
    (fun os started H enc _ F => by rw [OpenClaim.pre_eq_preRow]; exact lifted os started H enc F)

end Go.Proofs.Ytlehgfpaekibjaa.fnExactConfText
