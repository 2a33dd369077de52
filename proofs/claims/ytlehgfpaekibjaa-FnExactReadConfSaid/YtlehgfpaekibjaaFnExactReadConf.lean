/-
  For every text, laws.FnExactReadConf returns true: impl.ReadConf and spec.ReadConf answer alike, and the answer owns its memory; nothing that was in memory is written.
-/
import Derived.Test.YtlehgfpaekibjaaRows
import Derived.Test.YtlehgfpaekibjaaReadConfS
import Derived.Test.YtlehgfpaekibjaaReadConfI
import Derived.Test.YtlehgfpaekibjaaIntHeld
import Derived.WalkSmall
import Derived.WalkKit
import Derived.ProofKit
import Derived.OpenShut
import Derived.OpenVars
import Derived.Deep.DeepHandedRow
import Derived.Lib.LaidTab
import Derived.Stop.LaidErr
namespace Go.Proofs.Ytlehgfpaekibjaa.fnExactReadConf
open Go.ChangeShapes Go.WideShapes Go.ChangeAt Go.ChangeMaps Go.RowKit

set_option maxRecDepth 1000000 in
set_option maxHeartbeats 1000000 in
theorem walk (s : ByteArray) (_hs : s.size ≤ maxLen) (w : World) :
    Calls Try.prog 6 #[.string s] w fun e w' => e = .returned (.bool true) ∧ Below w.heap.size w w' := by
  by_cases hbig : (1048576 : Int) < (s.size : Int)
  · go_enter Try.func6, Try.ntmps6
    go_wp2
    go_ret
    exact ⟨rfl, Below.refl _ _⟩
  have hl : s.size ≤ 1048576 := by omega
  have cS' := fun w => specReadConf_any s hl w
  have cI' := fun w => implReadConf_any s w
  simp only [readConfAns] at cS' cI'
  have hz4 : (readConf s).1.length ≤ 4 := by
    cases hA : confOk (intsOf s.data.toList) with
    | true => rw [readConf_yes hA]; exact (confOk_len hA).2
    | false => rw [readConf_no hA]; simp
  obtain ⟨zs, ok, hok⟩ : ∃ zs ok, readConf s = (zs, ok) := ⟨_, _, rfl⟩
  rw [hok] at cS' cI' hz4
  dsimp only at cS' cI' hz4
  have cS := hid cS'
  have cI := hid cI'
  clear cS' cI' hok
  go_enter Try.func6, Try.ntmps6
  go_wp2_with fail
  refine Calls.mono (cS.out w) ?_
  rintro e w1 ⟨v1, rfl, o1, b1⟩
  obtain ⟨_, a1, c1, rfl, _⟩ := row_lie o1
  have Z1 := hid (ints_row rfl o1)
  have B1 := hid b1
  clear o1 b1
  go_wp2_with fail
  refine Calls.mono (cI.out w1) ?_
  rintro e w2 ⟨v2, rfl, o2, b2⟩
  obtain ⟨_, a2, c2, rfl, _⟩ := row_lie o2
  have R2 := hid o2
  have Z2 := hid (Z1.out.on b2)
  have L2 := hid (ints_below Z1.out)
  have B2 := hid (below_via B1.out b2)
  have S2 := hid b2.size
  have SB := hid B1.out.size
  clear o2 b2 B1 Z1
  go_wp2_with fail
  refine Calls.mono (eqIntS_same a2 a1 zs c2 c1 (by omega) w2 (ints_row rfl R2.out) Z2.out) ?_
  rintro e w3 ⟨rfl, b3⟩
  have R3 := hid (kept_conf R2.out b3)
  have Z3 := hid (Z2.out.on b3)
  have B3 := hid (below_via B2.out b3)
  have S3 := hid (Nat.le_trans S2.out b3.size)
  clear b3 R2 Z2 B2 S2
  go_wp2_with fail
  refine (markIntS_row _ zs w1.heap.size 1 (by omega) (by omega) w3 R3.out).mono ?_
  rintro e w4 ⟨rfl, a4, c4, hv4, M4, g, hg, gr⟩
  simp only [Value.slice.injEq] at hv4
  obtain ⟨rfl, _, rfl⟩ := hv4
  have MM := hid M4
  have Z4 := hid (Z3.out.far L2.out gr hg)
  have B4 := hid (B3.out.grown gr (Nat.le_trans SB.out S3.out) (fun k h => by simp only [Option.some.injEq] at h; have := SB.out; omega))
  clear M4 R3 Z3 B3 gr L2
  obtain ⟨N, hN⟩ : ∃ N, 1 + zs.length = N := ⟨_, rfl⟩
  have hN5 : N ≤ 5 := by omega
  have cH' := fun w h => heldIntS_any a2 zs.length c2 1 (by omega) (by omega) w h
  rw [hN] at cH' ⊢
  have cH := hid cH'
  clear cH' hN
  go_wp2_with fail
  refine Calls.mono (cH.out w4 MM.out) ?_
  rintro e w5 ⟨rfl, hw⟩
  rw [hw]
  clear hw w5
  go_wp2_with fail
  refine Calls.mono (cI.out w4) ?_
  rintro e w5 ⟨v5, rfl, o5, b5⟩
  obtain ⟨_, a5, c5, rfl, _⟩ := row_lie o5
  have R5 := hid o5
  have Z5 := hid (Z4.out.on b5)
  have M5 := hid (MM.out.on b5)
  have B5 := hid (below_via B4.out b5)
  clear o5 b5 Z4 MM B4
  go_wp2_with fail
  refine Calls.mono (eqIntS_same a5 a1 zs c5 c1 (by omega) w5 (ints_row rfl R5.out) Z5.out) ?_
  rintro e w6 ⟨rfl, b6⟩
  have M6 := hid (M5.out.on b6)
  have B6 := hid (below_via B5.out b6)
  clear b6 Z5 M5 B5 R5
  go_wp2_with fail
  refine Calls.mono (cH.out w6 M6.out) ?_
  rintro e w7 ⟨rfl, hw⟩
  rw [hw]
  clear hw w7
  go_wp2
  go_ret
  exact ⟨rfl, B6.out⟩

theorem own : ownKnob Try.prog.godebug = none := by kernel_rfl
theorem laidOut : laidOutB Try.prog = true := by kernel_rfl
theorem rowed : varsRowed Try.prog Rows.fnExactReadConfSpec.vars = true := by kernel_rfl
set_option maxRecDepth 1000000 in
theorem contract (H : Type) (enc : TypeId × Value → H) (W : World) (base : Nat) (args : Array Value) (ds gs : List (DataW H)) (before : List MemPlace)
    (hval : ∀ (j : Nat) t v, Try.f6.params[j]? = some t → args[j]? = some v → Value.okWide Try.prog W .any base t v)
    (hW : DataW.Whole enc Try.prog Try.f6.params.toList Rows.fnExactReadConfSpec.vars false W args.toList ds gs before) (_hL : laidMetH Try.prog Rows.fnExactReadConfRow.laid W) :
    Calls Try.prog 6 args W fun e W' => ∃ v, e = .returned v ∧ Rows.fnExactReadConfSpec.post enc Try.prog Try.f6 false true false false W args v W' := by
  have hW' := hW
  obtain ⟨p, q, hA0, hV0, rfl, hfz, hnd⟩ := hW
  have hV : DataW.TrodVars enc Try.prog W (fun _ => true) Rows.fnExactReadConfSpec.vars gs q := hV0
  have hA : DataW.TrodAll enc Try.prog W 0 (fun _ => true) true Try.f6.params.toList args.toList ds p := hA0
  rw [Try.params6] at hA hval
  obtain ⟨v0, vs0, d0, ds0, p0, q0, hargs0, rfl, rfl, h0, r0⟩ := trodAll_cons hA
  obtain ⟨rfl, rfl, rfl⟩ := trodAll_nil r0
  obtain rfl : args = #[v0] := by cases args; simp_all
  obtain ⟨a0, rfl, rfl, rfl, w0⟩ := open_string Try.underlying9 (hval 0 9 v0 rfl rfl) h0
  clear hA0 hV0
  obtain ⟨rfl, rfl⟩ := trodVars_none hV
  refine (walk a0 w0 W ).mono fun e W' ⟨he, bel⟩ => ?_
  subst he
  exact ⟨_, rfl, _, _, _, [], _, [], hW', trodAll_mk1 (shut_bool Try.underlying4 _), trodAll_cons_mk (shut_string Try.underlying9 w0) (trodAll_mk0), rfl, bel.frame _, fun h => by cases h⟩

def put (cs : Array Value) : Obj → Obj
  | .cells _ t frozen => .cells cs t frozen
  | o => o

/-- a world for the witness: the tables hold what their initialisers lay -/
def laidWorld (w : World) : World := { w with heap := w.heap }
theorem laid_met (os : Os) : laidMet Try.prog Rows.fnExactReadConfRow.laid ((laidWorld (World.holding Try.prog os ⟨#[], #[], []⟩)).forCall (fun _ _ => 0) ⟨#[], #[.string ByteArray.empty], []⟩).memory :=
  laidMet_of_run' 8 (by kernel_rfl) (by kernel_rfl)
theorem reads (os : Os) {H : Type} (enc : TypeId × Value → H) : ∃ places, DataW.whole enc Try.prog ((laidWorld (World.holding Try.prog os ⟨#[], #[], []⟩)).forCall (fun _ _ => 0) ⟨#[], #[.string ByteArray.empty], []⟩).memory Try.f6.params.toList Rows.fnExactReadConfSpec.vars false #[Value.string ByteArray.empty].toList 8 = some ([.lit (.string [])], [], places) :=
  ⟨[], by kernel_rfl⟩

set_option maxRecDepth 1000000 in
theorem lifted (os : Os) (started : os.Started) (H : Type) (enc : TypeId × Value → H) (F : Stop.Interp) :
    ReturnsInHanded {} Try.checked os 6 .any ((OpenSpec.ofChange Rows.fnExactReadConfSpec).preRow enc Try.prog Try.f6 Rows.fnExactReadConfRow.domain false Rows.fnExactReadConfRow.laid) (((OpenSpec.ofChange Rows.fnExactReadConfSpec).at F).post enc Try.prog Try.f6 false true false false) := by
  obtain ⟨places, hx⟩ := reads os enc
  refine returnsInHanded_of_row (C := Try.checked) (s := OpenSpec.ofChange Rows.fnExactReadConfSpec) own started (by kernel_rfl) Try.func6
    (witness_row_at (enc := enc) (C := Try.checked) false (laidWorld (World.holding Try.prog os ⟨#[], #[], []⟩)) #[.string ByteArray.empty] rfl (by kernel_rfl) (by kernel_rfl) (by kernel_rfl)
      (OpenSpec.preRow_of_cond 8 hx (by kernel_rfl) (fun k hk => by cases hk) (by kernel_rfl) (laid_met os))) ?_
  intro W base args ds gs before hval hW _ _ _ hL _ _
  exact contract H enc W base args ds gs before hval hW hL

theorem said : Rows.FnExactReadConfSaid :=
  OpenClaim.holds_of_cond 6 Try.f6 rfl rfl rfl rfl rfl rfl rfl ⟨rfl, rfl, rfl, rfl, rfl⟩ rfl rfl rfl rfl rfl (by kernel_rfl) Try.func6 (by kernel_rfl)
    (of_decide_eq_true (by kernel_rfl)) (by unfold Func.isWrapper; first | (rw [if_pos (by decide +kernel)]; kernel_rfl) | (rw [if_neg (by decide +kernel)]; exact ⟨rfl, rfl⟩))
    (fun os started H enc _ F => by rw [OpenClaim.pre_eq_preRow]; exact lifted os started H enc F)

end Go.Proofs.Ytlehgfpaekibjaa.fnExactReadConf
