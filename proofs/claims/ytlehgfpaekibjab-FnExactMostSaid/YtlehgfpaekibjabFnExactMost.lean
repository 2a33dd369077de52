/-
  For every two lists of numbers, laws.FnExactMost returns true: impl.Most and spec.Most answer alike, and no argument is written; nothing that was in memory is written.
-/
import Derived.Test.YtlehgfpaekibjabRows
import Derived.Test.YtlehgfpaekibjabMostS
import Derived.Test.YtlehgfpaekibjabMostI
import Derived.Test.YtlehgfpaekibjabIntS
import Derived.Test.YtlehgfpaekibjabOpenInts
import Derived.WalkSmall
import Derived.WalkKit
import Derived.ProofKit
import Derived.OpenShut
import Derived.OpenVars
import Derived.Deep.DeepHandedRow
import Derived.Lib.LaidTab
import Derived.Stop.LaidErr
namespace Go.Proofs.Ytlehgfpaekibjab.fnExactMost
open Go.ChangeShapes Go.WideShapes Go.ChangeAt Go.ChangeMaps Go.RowKit

set_option maxRecDepth 1000000 in
set_option maxHeartbeats 1000000 in
theorem walk (ao : Option Addr) (zs : List Int) (acap : Nat) (_hzl : zs.length ≤ maxLen) (_hzf : IntsFit zs) (lo : Option Addr) (ls : List Int) (lcap : Nat) (_hll : ls.length ≤ maxLen) (_hlf : IntsFit ls) (w : World) (hz : IntsAt w ao zs) (hs : IntsAt w lo ls) :
    Calls Try.prog 4 #[.slice ao zs.length acap, .slice lo ls.length lcap] w fun e w' => e = .returned (.bool true) ∧ Below w.heap.size w w' := by
  have HZ := hid hz
  have HS := hid hs
  clear hz hs
  by_cases hbig : (1048576 : Int) < (zs.length : Int)
  · go_enter Try.func4, Try.ntmps4
    go_wp2
    go_ret
    exact ⟨rfl, Below.refl _ _⟩
  by_cases hbig2 : (1048576 : Int) < (ls.length : Int)
  · go_enter Try.func4, Try.ntmps4
    go_wp2
    go_ret
    exact ⟨rfl, Below.refl _ _⟩
  have hl : zs.length ≤ 1048576 := by omega
  have hl2 : ls.length ≤ 1048576 := by omega
  obtain ⟨ok, hok⟩ : ∃ ok, most zs ls = ok := ⟨_, rfl⟩
  have HOK := hid hok
  clear hok
  have B0 := hid (Below.refl w.heap.size w)
  go_enter Try.func4, Try.ntmps4
  go_wp2_with fail
  refine (toIntS_any ao zs acap hl _ (HZ.out.on B0.out)).mono ?_
  rintro e w1 ⟨rfl, k, b⟩
  have Ka_1 := hid k
  have B1 := hid (below_via B0.out b)
  clear k b B0
  go_wp2_with fail
  refine (toIntS_any lo ls lcap hl2 _ (HS.out.on B1.out)).mono ?_
  rintro e w2 ⟨rfl, k, b⟩
  have Ka_2 := hid (Ka_1.out.on b Ka_1.out.lt)
  have Kb_2 := hid k
  have B2 := hid (below_via B1.out b)
  clear k b B1 Ka_1
  have cc := specMost_any (some ⟨w.heap.size, 0, none⟩) (some ⟨w1.heap.size, 0, none⟩) zs ls zs.length ls.length hl hl2 w2 (intsAt_of (r := []) (by rw [List.append_nil]; exact Ka_2.out)) (intsAt_of (r := []) (by rw [List.append_nil]; exact Kb_2.out))
  rw [HOK.out] at cc
  have CC := hid cc
  clear cc
  go_wp2_with fail
  refine Calls.mono CC.out ?_
  rintro e w3 ⟨rfl, b⟩
  have Ka_3 := hid (Ka_2.out.on b Ka_2.out.lt)
  have Kb_3 := hid (Kb_2.out.on b Kb_2.out.lt)
  have B3 := hid (below_via B2.out b)
  clear b B2 CC Ka_2 Kb_2
  clear Ka_3
  clear Kb_3
  go_wp2_with fail
  refine (toIntS_any ao zs acap hl _ (HZ.out.on B3.out)).mono ?_
  rintro e w4 ⟨rfl, k, b⟩
  have Kx_4 := hid k
  have B4 := hid (below_via B3.out b)
  clear k b B3
  go_wp2_with fail
  refine (toIntS_any lo ls lcap hl2 _ (HS.out.on B4.out)).mono ?_
  rintro e w5 ⟨rfl, k, b⟩
  have Kx_5 := hid (Kx_4.out.on b Kx_4.out.lt)
  have Ky_5 := hid k
  have B5 := hid (below_via B4.out b)
  clear k b B4 Kx_4
  have cc := implMost_any (some ⟨w3.heap.size, 0, none⟩) (some ⟨w4.heap.size, 0, none⟩) zs ls zs.length ls.length hl hl2 w5 (intsAt_of (r := []) (by rw [List.append_nil]; exact Kx_5.out)) (intsAt_of (r := []) (by rw [List.append_nil]; exact Ky_5.out))
  rw [HOK.out] at cc
  have CC := hid cc
  clear cc
  go_wp2_with fail
  refine Calls.mono CC.out ?_
  rintro e w6 ⟨rfl, b⟩
  have Kx_6 := hid (Kx_5.out.on b Kx_5.out.lt)
  have Ky_6 := hid (Ky_5.out.on b Ky_5.out.lt)
  have B6 := hid (below_via B5.out b)
  clear b B5 CC Kx_5 Ky_5
  go_wp2_with fail
  refine (toIntS_any ao zs acap hl _ (HZ.out.on B6.out)).mono ?_
  rintro e w7 ⟨rfl, k, b⟩
  have Kx_7 := hid (Kx_6.out.on b Kx_6.out.lt)
  have Ky_7 := hid (Ky_6.out.on b Ky_6.out.lt)
  have Kc_7 := hid k
  have B7 := hid (below_via B6.out b)
  clear k b B6 Kx_6 Ky_6
  have cc := eqIntS_same (some ⟨w3.heap.size, 0, none⟩) (some ⟨w6.heap.size, 0, none⟩) zs zs.length zs.length (by omega) w7 (intsAt_of (r := []) (by rw [List.append_nil]; exact Kx_7.out)) (intsAt_of (r := []) (by rw [List.append_nil]; exact Kc_7.out))
  have CC := hid cc
  clear cc
  go_wp2_with fail
  refine Calls.mono CC.out ?_
  rintro e w8 ⟨rfl, b⟩
  have Kx_8 := hid (Kx_7.out.on b Kx_7.out.lt)
  have Ky_8 := hid (Ky_7.out.on b Ky_7.out.lt)
  have Kc_8 := hid (Kc_7.out.on b Kc_7.out.lt)
  have B8 := hid (below_via B7.out b)
  clear b B7 CC Kx_7 Ky_7 Kc_7
  clear Kx_8
  clear Kc_8
  go_wp2_with fail
  refine (toIntS_any lo ls lcap hl2 _ (HS.out.on B8.out)).mono ?_
  rintro e w9 ⟨rfl, k, b⟩
  have Ky_9 := hid (Ky_8.out.on b Ky_8.out.lt)
  have Kd_9 := hid k
  have B9 := hid (below_via B8.out b)
  clear k b B8 Ky_8
  have cc := eqIntS_same (some ⟨w4.heap.size, 0, none⟩) (some ⟨w8.heap.size, 0, none⟩) ls ls.length ls.length (by omega) w9 (intsAt_of (r := []) (by rw [List.append_nil]; exact Ky_9.out)) (intsAt_of (r := []) (by rw [List.append_nil]; exact Kd_9.out))
  have CC := hid cc
  clear cc
  go_wp2_with fail
  refine Calls.mono CC.out ?_
  rintro e w10 ⟨rfl, b⟩
  have Ky_10 := hid (Ky_9.out.on b Ky_9.out.lt)
  have Kd_10 := hid (Kd_9.out.on b Kd_9.out.lt)
  have B10 := hid (below_via B9.out b)
  clear b B9 CC Ky_9 Kd_9
  go_wp2
  go_ret
  exact ⟨rfl, B10.out⟩

theorem own : ownKnob Try.prog.godebug = none := by kernel_rfl
theorem laidOut : laidOutB Try.prog = true := by kernel_rfl
theorem rowed : varsRowed Try.prog Rows.fnExactMostSpec.vars = true := by kernel_rfl
set_option maxRecDepth 1000000 in
theorem contract (H : Type) (enc : TypeId × Value → H) (W : World) (base : Nat) (args : Array Value) (ds gs : List (DataW H)) (before : List MemPlace)
    (hval : ∀ (j : Nat) t v, Try.f4.params[j]? = some t → args[j]? = some v → Value.okWide Try.prog W .any base t v)
    (hW : DataW.Whole enc Try.prog Try.f4.params.toList Rows.fnExactMostSpec.vars false W args.toList ds gs before) (_hL : laidMetH Try.prog Rows.fnExactMostRow.laid W) :
    Calls Try.prog 4 args W fun e W' => ∃ v, e = .returned v ∧ Rows.fnExactMostSpec.post enc Try.prog Try.f4 false true false false W args v W' := by
  have hW' := hW
  obtain ⟨p, q, hA0, hV0, rfl, hfz, hnd⟩ := hW
  have hV : DataW.TrodVars enc Try.prog W (fun _ => true) Rows.fnExactMostSpec.vars gs q := hV0
  have hA : DataW.TrodAll enc Try.prog W 0 (fun _ => true) true Try.f4.params.toList args.toList ds p := hA0
  rw [Try.params4] at hA hval
  obtain ⟨v0, vs0, d0, ds0, p0, q0, hargs0, rfl, rfl, h0, r0⟩ := trodAll_cons hA
  obtain ⟨v1, vs1, d1, ds1, p1, q1, hargs1, rfl, rfl, h1, r1⟩ := trodAll_cons r0
  subst hargs1
  obtain ⟨rfl, rfl, rfl⟩ := trodAll_nil r1
  obtain rfl : args = #[v0, v1] := by cases args; simp_all
  have k0 := h0
  have lt0 : ∀ x ∈ p0, x.block < W.heap.size := by obtain ⟨m, hm⟩ := k0; exact DataW.trod_lt m _ _ _ hm
  obtain ⟨a0, z0, cap0, rfl, hc0, hm0, hat0, hf0⟩ := open_intS (hval 0 28 v0 rfl rfl) h0
  have k1 := h1
  have lt1 : ∀ x ∈ p1, x.block < W.heap.size := by obtain ⟨m, hm⟩ := k1; exact DataW.trod_lt m _ _ _ hm
  obtain ⟨a1, z1, cap1, rfl, hc1, hm1, hat1, hf1⟩ := open_intS (hval 1 28 v1 rfl rfl) h1
  clear hA0 hV0
  obtain ⟨rfl, rfl⟩ := trodVars_none hV
  refine (walk a0 z0 cap0 (Nat.le_trans hc0 hm0) hf0 a1 z1 cap1 (Nat.le_trans hc1 hm1) hf1 W hat0 hat1).mono fun e W' ⟨he, bel⟩ => ?_
  subst he
  exact ⟨_, rfl, _, _, _, [], _, [], hW', trodAll_mk1 (shut_bool Try.underlying4 _), trodAll_cons_mk (Below.trod laidOut (by kernel_rfl) (of_decide_eq_true (by kernel_rfl)) k0 bel lt0) (trodAll_cons_mk (Below.trod laidOut (by kernel_rfl) (of_decide_eq_true (by kernel_rfl)) k1 bel lt1) (trodAll_mk0)), rfl, bel.frame _, fun h => by cases h⟩

def put (cs : Array Value) : Obj → Obj
  | .cells _ t frozen => .cells cs t frozen
  | o => o

/-- a world for the witness: the tables hold what their initialisers lay -/
def laidWorld (w : World) : World := { w with heap := w.heap }
theorem laid_met (os : Os) : laidMet Try.prog Rows.fnExactMostRow.laid ((laidWorld (World.holding Try.prog os ⟨#[], #[], []⟩)).forCall (fun _ _ => 0) ⟨#[], #[.slice none 0 0, .slice none 0 0], []⟩).memory :=
  laidMet_of_run' 8 (by kernel_rfl) (by kernel_rfl)
theorem reads (os : Os) {H : Type} (enc : TypeId × Value → H) : ∃ places, DataW.whole enc Try.prog ((laidWorld (World.holding Try.prog os ⟨#[], #[], []⟩)).forCall (fun _ _ => 0) ⟨#[], #[.slice none 0 0, .slice none 0 0], []⟩).memory Try.f4.params.toList Rows.fnExactMostSpec.vars false #[Value.slice none 0 0, .slice none 0 0].toList 8 = some ([.nil, .nil], [], places) :=
  ⟨[], by kernel_rfl⟩

set_option maxRecDepth 1000000 in
theorem lifted (os : Os) (started : os.Started) (H : Type) (enc : TypeId × Value → H) (F : Stop.Interp) :
    ReturnsInHanded {} Try.checked os 4 .any ((OpenSpec.ofChange Rows.fnExactMostSpec).preRow enc Try.prog Try.f4 Rows.fnExactMostRow.domain false Rows.fnExactMostRow.laid) (((OpenSpec.ofChange Rows.fnExactMostSpec).at F).post enc Try.prog Try.f4 false true false false) := by
  obtain ⟨places, hx⟩ := reads os enc
  refine returnsInHanded_of_row (C := Try.checked) (s := OpenSpec.ofChange Rows.fnExactMostSpec) own started (by kernel_rfl) Try.func4
    (witness_row_at (enc := enc) (C := Try.checked) false (laidWorld (World.holding Try.prog os ⟨#[], #[], []⟩)) #[.slice none 0 0, .slice none 0 0] rfl (by kernel_rfl) (by kernel_rfl) (by kernel_rfl)
      (OpenSpec.preRow_of_cond 8 hx (by kernel_rfl) (fun k hk => by cases hk) (by kernel_rfl) (laid_met os))) ?_
  intro W base args ds gs before hval hW _ _ _ hL _ _
  exact contract H enc W base args ds gs before hval hW hL

theorem said : Rows.FnExactMostSaid :=
  OpenClaim.holds_of_cond 4 Try.f4 rfl rfl rfl rfl rfl rfl rfl ⟨rfl, rfl, rfl, rfl, rfl⟩ rfl rfl rfl rfl rfl (by kernel_rfl) Try.func4 (by kernel_rfl)
    (of_decide_eq_true (by kernel_rfl)) (by unfold Func.isWrapper; first | (rw [if_pos (by decide +kernel)]; kernel_rfl) | (rw [if_neg (by decide +kernel)]; exact ⟨rfl, rfl⟩))
    (fun os started H enc _ F => by rw [OpenClaim.pre_eq_preRow]; exact lifted os started H enc F)

end Go.Proofs.Ytlehgfpaekibjab.fnExactMost
