/-
  For every slice of bytes, laws.FnGaps returns true: how far a number is behind another one goes round; nothing that was in memory is written.
-/
import Derived.Test.YtgnoojbbicbklaaRows
import Derived.Test.YtgnoojbbicbklaaDrawPlaces
import Derived.Test.YtgnoojbbicbklaaDrawAddS
import Derived.Test.YtgnoojbbicbklaaBig
import Derived.Test.YtgnoojbbicbklaaNum12S
import Derived.Test.YtgnoojbbicbklaaGap12I
import Derived.WalkSmall
import Derived.WalkKit
import Derived.ProofKit
import Derived.OpenShut
import Derived.OpenVars
import Derived.Deep.DeepHandedRow
import Derived.Lib.LaidTab
import Derived.Stop.LaidErr
namespace Go.Proofs.Ytgnoojbbicbklaa.fnGaps
open Go.ChangeShapes Go.WideShapes Go.ChangeAt Go.ChangeMaps Go.RowKit

set_option maxRecDepth 1000000 in
set_option maxHeartbeats 4000000 in
theorem walk (ao : Option Addr) (len cap : Nat) (hcap : len ≤ cap) (w : World) (hr : Bytes w ao len) :
    Calls Try.prog 3 #[.slice ao len cap] w fun e w' => e = .returned (.bool true) ∧ Below w.heap.size w w' := by
  have HR := hid hr
  clear hr
  by_cases hbig : 1048576 < len
  · go_enter Try.func3, Try.ntmps3
    go_wp2
    go_ret
    exact ⟨rfl, Below.refl _ _⟩
  have hlen : len ≤ 1048576 := by omega
  clear hbig
  go_enter Try.func3, Try.ntmps3
  go_wp2_with fail
  refine (big_no ao len cap hlen _).mono ?_
  rintro e w0 ⟨rfl, hw0⟩
  rw [hw0]
  clear hw0 w0
  go_wp2_with fail
  refine (drawPlaces_any ao len cap hlen hcap _ HR.out).mono ?_
  rintro e w1 ⟨v, rfl, ⟨g, cp, rfl, hcp, hpl⟩, b1⟩
  have B1 := hid b1
  obtain ⟨z0, l0, c0⟩ := hpl 0 (by omega)
  obtain ⟨z1, l1, c1⟩ := hpl 1 (by omega)
  obtain ⟨z2, l2, c2⟩ := hpl 2 (by omega)
  clear hpl b1
  obtain ⟨A, hA⟩ : ∃ x, ((z0 : Int) * 7).tmod 65536 = x := ⟨_, rfl⟩
  have a1 : 0 ≤ A ∧ A ≤ 65535 := by rw [Int.tmod_eq_emod_of_nonneg (by omega)] at hA; omega
  obtain ⟨Q, hQ⟩ : ∃ x, ((z1 : Int) * 11).tmod 65536 = x := ⟨_, rfl⟩
  have q1 : 0 ≤ Q ∧ Q ≤ 65535 := by rw [Int.tmod_eq_emod_of_nonneg (by omega)] at hQ; omega
  obtain ⟨hA2, hA3⟩ := a1
  obtain ⟨hQ2, hQ3⟩ := q1
  have hA4 : ((z0 : Int) * 7) % 65536 = A := by rw [← hA, Int.tmod_eq_emod_of_nonneg (by omega)]
  have hQ4 : ((z1 : Int) * 11) % 65536 = Q := by rw [← hQ, Int.tmod_eq_emod_of_nonneg (by omega)]
  go_wp2_with fail
  refine (drawAddNum_any ao len cap hlen hcap _ (bytes_on HR.out B1.out)).mono ?_
  rintro e w2 ⟨x, y, rfl, b2⟩
  have B2 := hid (below_via B1.out b2)
  clear b2 c0 c1 c2 hA hQ hA4 hQ4
  obtain ⟨n, hn⟩ : ∃ n : Int, (z2 : Int) * 13 - 60000 = n := ⟨_, rfl⟩
  have hn2 : -60000 ≤ n ∧ n ≤ 100000 := by omega
  obtain ⟨hn3, hn4⟩ := hn2
  rw [hn]
  clear hn
  have C1 := hid (fun W => implGap_any A Q W)
  have C2 := hid (fun W => implAddNum_any A (gapNum A Q) W)
  rw [gap_back hQ2 hQ3] at C2
  have C3 := hid (fun W => implGap_any A A W)
  rw [gap_self] at C3
  have C4 := hid (fun W => implGap_any Q A W)
  have hsum : A ≠ Q → gapNum A Q + gapNum Q A = 65536 := gap_both hA2 hA3 hQ2 hQ3
  have g1 := gapNum_bd A Q
  have g2 := gapNum_bd Q A
  generalize gapNum A Q = G1 at C1 C2 hsum g1
  generalize gapNum Q A = G2 at C4 hsum g2
  have C6 := hid (fun W => implAddNum_any A n W)
  have C7 := hid (fun W => implAddNum_any (addNum A n) (-n) W)
  rw [add_off hA2 hA3] at C7
  generalize addNum A n = P at C6 C7
  have C8 := hid (fun W => implAddNum_any x y W)
  have C9 := hid (fun W => specAddNum_any x y W)
  obtain ⟨r1, r2⟩ := addNum_bd x y
  generalize addNum x y = R at C8 C9 r1 r2
  have r3 : R < 65536 := by omega
  obtain ⟨g11, g12⟩ := g1
  obtain ⟨g21, g22⟩ := g2
  go_wp2_with fail
  refine Calls.mono (C1.out _) ?_
  rintro e w9 ⟨rfl, hw9⟩
  rw [hw9]
  clear hw9 w9
  go_wp2_with fail
  refine Calls.mono (C2.out _) ?_
  rintro e w9 ⟨rfl, hw9⟩
  rw [hw9]
  clear hw9 w9
  go_wp2_with fail
  refine Calls.mono (C3.out _) ?_
  rintro e w9 ⟨rfl, hw9⟩
  rw [hw9]
  clear hw9 w9
  by_cases hab : A = Q
  · subst hab
    clear hsum
    go_wp2_with fail
    refine Calls.mono (C6.out _) ?_
    rintro e w9 ⟨rfl, hw9⟩
    rw [hw9]
    clear hw9 w9
    go_wp2_with fail
    refine Calls.mono (C7.out _) ?_
    rintro e w9 ⟨rfl, hw9⟩
    rw [hw9]
    clear hw9 w9
    go_wp2_with fail
    refine Calls.mono (C8.out _) ?_
    rintro e w9 ⟨rfl, hw9⟩
    rw [hw9]
    clear hw9 w9
    go_wp2_with fail
    refine Calls.mono (C9.out _) ?_
    rintro e w9 ⟨rfl, hw9⟩
    rw [hw9]
    clear hw9 w9
    go_wp2_with fail
    refine Calls.mono (C8.out _) ?_
    rintro e w9 ⟨rfl, hw9⟩
    rw [hw9]
    clear hw9 w9
    go_wp2_with fail
    refine Calls.mono (C8.out _) ?_
    rintro e w9 ⟨rfl, hw9⟩
    rw [hw9]
    clear hw9 w9
    go_wp2
    go_ret
    exact ⟨rfl, B2.out⟩
  · have hs2 := hsum hab
    clear hsum
    go_wp2_with fail
    refine Calls.mono (C1.out _) ?_
    rintro e w9 ⟨rfl, hw9⟩
    rw [hw9]
    clear hw9 w9
    go_wp2_with fail
    refine Calls.mono (C4.out _) ?_
    rintro e w9 ⟨rfl, hw9⟩
    rw [hw9]
    clear hw9 w9
    go_wp2_with fail
    refine Calls.mono (C6.out _) ?_
    rintro e w9 ⟨rfl, hw9⟩
    rw [hw9]
    clear hw9 w9
    go_wp2_with fail
    refine Calls.mono (C7.out _) ?_
    rintro e w9 ⟨rfl, hw9⟩
    rw [hw9]
    clear hw9 w9
    go_wp2_with fail
    refine Calls.mono (C8.out _) ?_
    rintro e w9 ⟨rfl, hw9⟩
    rw [hw9]
    clear hw9 w9
    go_wp2_with fail
    refine Calls.mono (C9.out _) ?_
    rintro e w9 ⟨rfl, hw9⟩
    rw [hw9]
    clear hw9 w9
    go_wp2_with fail
    refine Calls.mono (C8.out _) ?_
    rintro e w9 ⟨rfl, hw9⟩
    rw [hw9]
    clear hw9 w9
    go_wp2_with fail
    refine Calls.mono (C8.out _) ?_
    rintro e w9 ⟨rfl, hw9⟩
    rw [hw9]
    clear hw9 w9
    go_wp2
    go_ret
    exact ⟨rfl, B2.out⟩

theorem own : ownKnob Try.prog.godebug = none := by kernel_rfl
theorem laidOut : laidOutB Try.prog = true := by kernel_rfl
theorem rowed : varsRowed Try.prog Rows.fnGapsSpec.vars = true := by kernel_rfl
set_option maxRecDepth 1000000 in
theorem contract (H : Type) (enc : TypeId × Value → H) (W : World) (base : Nat) (args : Array Value) (ds gs : List (DataW H)) (before : List MemPlace)
    (hval : ∀ (j : Nat) t v, Try.f3.params[j]? = some t → args[j]? = some v → Value.okWide Try.prog W .any base t v)
    (hW : DataW.Whole enc Try.prog Try.f3.params.toList Rows.fnGapsSpec.vars false W args.toList ds gs before) (_hL : laidMetH Try.prog Rows.fnGapsRow.laid W) :
    Calls Try.prog 3 args W fun e W' => ∃ v, e = .returned v ∧ Rows.fnGapsSpec.post enc Try.prog Try.f3 false true false false W args v W' := by
  have hW' := hW
  obtain ⟨p, q, hA0, hV0, rfl, hfz, hnd⟩ := hW
  have hV : DataW.TrodVars enc Try.prog W (fun _ => true) Rows.fnGapsSpec.vars gs q := hV0
  have hA : DataW.TrodAll enc Try.prog W 0 (fun _ => true) true Try.f3.params.toList args.toList ds p := hA0
  rw [Try.params3] at hA hval
  obtain ⟨v0, vs0, d0, ds0, p0, q0, hargs0, rfl, rfl, h0, r0⟩ := trodAll_cons hA
  obtain ⟨rfl, rfl, rfl⟩ := trodAll_nil r0
  obtain rfl : args = #[v0] := by cases args; simp_all
  obtain ⟨a0, len0, cap0, rfl⟩ := okWide_slice Try.underlying22 (hval 0 22 v0 rfl rfl)
  have k0 := h0
  have lt0 : ∀ x ∈ p0, x.block < W.heap.size := by obtain ⟨m, hm⟩ := k0; exact DataW.trod_lt m _ _ _ hm
  have hb0 : len0 ≤ cap0 ∧ Bytes W a0 len0 := by
    obtain ⟨fuel, hf⟩ := h0
    rcases open_ints Try.underlying22 Try.underlying5 (by kernel_rfl) hf with ⟨hcs, _⟩ | ⟨x, l, c, zs, hcs, _, hl, hm, hz, _, hcell, hwz⟩
    · simp [Value.cells] at hcs
      obtain ⟨rfl, rfl, rfl⟩ := hcs
      exact ⟨Nat.le_refl _, fun h => by omega⟩
    · simp [Value.cells] at hcs
      obtain ⟨rfl, rfl, rfl⟩ := hcs
      refine ⟨hl, fun hp => ?_⟩
      have hzl : zs.length = cap0 := by simpa using hz
      obtain ⟨b, off, rfl, hc⟩ := ints_at hcell (by omega)
      refine ⟨b, off, rfl, fun j hj => ?_⟩
      have hjz : j < zs.length := by omega
      have hb8 := bounds_u8 (hwz (zs.getD j 0) (by simp [List.getD, hjz]))
      exact ⟨zs.getD j 0, hb8.1, hb8.2, hc j hjz⟩
  clear hA0 hV0
  obtain ⟨rfl, rfl⟩ := trodVars_none hV
  refine (walk a0 len0 cap0 hb0.1 W hb0.2).mono fun e W' ⟨he, bel⟩ => ?_
  subst he
  exact ⟨_, rfl, _, _, _, [], _, [], hW', trodAll_mk1 (shut_bool Try.underlying4 _), trodAll_cons_mk (Below.trod laidOut (by kernel_rfl) (of_decide_eq_true (by kernel_rfl)) k0 bel lt0) (trodAll_mk0), rfl, bel.frame _, fun h => by cases h⟩

def put (cs : Array Value) : Obj → Obj
  | .cells _ t frozen => .cells cs t frozen
  | o => o

/-- a world for the witness: the tables hold what their initialisers lay -/
def laidWorld (w : World) : World := { w with heap := w.heap }
theorem laid_met (os : Os) : laidMet Try.prog Rows.fnGapsRow.laid ((laidWorld (World.holding Try.prog os ⟨#[], #[], []⟩)).forCall (fun _ _ => 0) ⟨#[], #[.slice none 0 0], []⟩).memory :=
  laidMet_of_run' 8 (by kernel_rfl) (by kernel_rfl)
theorem reads (os : Os) {H : Type} (enc : TypeId × Value → H) : ∃ places, DataW.whole enc Try.prog ((laidWorld (World.holding Try.prog os ⟨#[], #[], []⟩)).forCall (fun _ _ => 0) ⟨#[], #[.slice none 0 0], []⟩).memory Try.f3.params.toList Rows.fnGapsSpec.vars false #[Value.slice none 0 0].toList 8 = some ([.nil], [], places) :=
  ⟨[], by kernel_rfl⟩

set_option maxRecDepth 1000000 in
theorem lifted (os : Os) (started : os.Started) (H : Type) (enc : TypeId × Value → H) (F : Stop.Interp) :
    ReturnsInHanded {} Try.checked os 3 .any ((OpenSpec.ofChange Rows.fnGapsSpec).preRow enc Try.prog Try.f3 Rows.fnGapsRow.domain false Rows.fnGapsRow.laid) (((OpenSpec.ofChange Rows.fnGapsSpec).at F).post enc Try.prog Try.f3 false true false false) := by
  obtain ⟨places, hx⟩ := reads os enc
  refine returnsInHanded_of_row (C := Try.checked) (s := OpenSpec.ofChange Rows.fnGapsSpec) own started (by kernel_rfl) Try.func3
    (witness_row_at (enc := enc) (C := Try.checked) false (laidWorld (World.holding Try.prog os ⟨#[], #[], []⟩)) #[.slice none 0 0] rfl (by kernel_rfl) (by kernel_rfl) (by kernel_rfl)
      (OpenSpec.preRow_of_cond 8 hx (by kernel_rfl) (fun k hk => by cases hk) (by kernel_rfl) (laid_met os))) ?_
  intro W base args ds gs before hval hW _ _ _ hL _ _
  exact contract H enc W base args ds gs before hval hW hL

theorem said : Rows.FnGapsSaid :=
  OpenClaim.holds_of_cond 3 Try.f3 rfl rfl rfl rfl rfl rfl rfl ⟨rfl, rfl, rfl, rfl, rfl⟩ rfl rfl rfl rfl rfl (by kernel_rfl) Try.func3 (by kernel_rfl)
    (of_decide_eq_true (by kernel_rfl)) (by unfold Func.isWrapper; first | (rw [if_pos (by decide +kernel)]; kernel_rfl) | (rw [if_neg (by decide +kernel)]; exact ⟨rfl, rfl⟩))
    (fun os started H enc _ F => by rw [OpenClaim.pre_eq_preRow]; exact lifted os started H enc F)

end Go.Proofs.Ytgnoojbbicbklaa.fnGaps
