/-
  For every slice of bytes, laws.FnKnown returns true: who was learned last is known, four are known at most, each address once; nothing that was in memory is written.
-/
import Derived.Test.YtneociicjidcnaaRows
import Derived.Test.YtneociicjidcnaaDrawPlaces
import Derived.Test.YtneociicjidcnaaBig
import Derived.Test.YtneociicjidcnaaPlainKInv
import Derived.Test.YtneociicjidcnaaLearnI
import Derived.Test.YtneociicjidcnaaCardOfI
import Derived.Deep.RegionWith
import Derived.Deep.LoopGhost
import Derived.BigQuiet
import Derived.Lib.QuietBelow
import Derived.Deep.QuietTactic
import Derived.WalkSmall
import Derived.WalkKit
import Derived.ProofKit
import Derived.OpenShut
import Derived.OpenVars
import Derived.Deep.DeepHandedRow
import Derived.Lib.LaidTab
import Derived.Stop.LaidErr
namespace Go.Proofs.Ytneociicjidcnaa.fnKnown
open Go.ChangeShapes Go.WideShapes Go.ChangeAt Go.ChangeMaps Go.RowKit

set_option maxRecDepth 1000000 in
set_option maxHeartbeats 8000000 in
theorem walk (ao : Option Addr) (len cap : Nat) (hcap : len ≤ cap) (w : World) (hr : Bytes w ao len) :
    Calls Try.prog 3 #[.slice ao len cap] w fun e w' => e = .returned (.bool true) ∧ Below w.heap.size w w' := by
  have HR := hid hr
  clear hr
  by_cases hbig : 1048576 < len
  · go_enter Try.func3, Try.ntmps3
    go_wp2
    go_ret
    exact ⟨rfl, Below.refl _ _⟩
  have hlen : len ≤ 1048576 := by omega
  clear hbig
  go_enter Try.func3, Try.ntmps3
  go_wp2_with fail
  refine (big_no ao len cap hlen _).mono ?_
  rintro e w0 ⟨rfl, hw0⟩
  rw [hw0]
  clear hw0 w0
  go_wp2_with fail
  refine (drawPlaces_any ao len cap hlen hcap _ HR.out).mono ?_
  rintro e w2 ⟨p, rfl, hp, b2⟩
  have B2 := hid b2
  obtain ⟨gp, pc, rfl, hpc, hcell⟩ := hp
  have HP := hid hcell
  clear b2 hcell HR
  have b3 := below_more (Below.refl w2.heap.size w2) (.cells #[] 30)
  have B3 := hid b3
  clear b3
  go_wp2
  go_loopg [4, 5] 9 (fun g v i wr => ∃ (k : Nat) (l : List KnownD) (va : Option Addr) (vc : Nat), k + g = 9 ∧ i = .int .i64 k ∧ v = .slice va l.length vc ∧ Hid (KInv l) ∧ Hid (0 < k → 0 < l.length) ∧ Hid (Below w2.heap.size w2 wr) ∧ Hid (KnownsAt wr va l))
  case atStart => exact ⟨0, [], _, _, by omega, rfl, rfl, kinv_nil, (show 0 < 0 → _ from fun h => absurd h (by omega)), B3, (show KnownsAt _ _ [] from fun h => absurd rfl h)⟩
  case round =>
    obtain ⟨k, l, va, vc, hkg, rfl, rfl, KI, KN, BR, KA⟩ := hrel
    clear B3
    have hl4 := KI.out.few
    cases gk with
    | zero =>
      obtain rfl : k = 9 := by omega
      have hpos := KN.out (by omega)
      have CL := hid (implLearn_any va l vc 0 5 (by omega) wr KA.out)
      rw [learn_zero] at CL
      unfold LearnDid at CL
      go_wp2_with fail
      refine Calls.mono CL.out ?_
      rintro e w5 ⟨va5, vc5, rfl, _, _, b5⟩
      have B5 := hid (below_via B2.out (below_via BR.out b5))
      have CC := hid (implCardOf_any va l vc 99 (by omega) w5 (KA.out.on b5))
      rw [KI.out.none99] at CC
      clear b5 CL
      go_wp2_with fail
      refine Calls.mono CC.out ?_
      rintro e w6 ⟨rfl, b6⟩
      have B6 := hid (below_via B5.out b6)
      clear b6 CC
      go_wp2
      go_ret
      exact ⟨by simp, B6.out⟩
    | succ g =>
      obtain ⟨z, hz, c0⟩ := HP.out k (by omega)
      have cz := hid ((BR.out.cell (p := ⟨gp, k, none⟩) (World.block_lt_of_cell? w2 _ c0)).trans c0)
      clear c0
      obtain ⟨m7, hm7⟩ : ∃ m : Nat, m = z % 7 := ⟨_, rfl⟩
      obtain ⟨m50, hm50⟩ : ∃ m : Nat, m = z % 50 := ⟨_, rfl⟩
      have l7 : m7 < 7 := by omega
      have l50 : m50 < 50 := by omega
      have h7 : (z : Int).tmod 7 = (m7 : Int) := by rw [Int.tmod_eq_emod_of_nonneg (by omega)]; omega
      have h50 : (z : Int).tmod 50 = (m50 : Int) := by rw [Int.tmod_eq_emod_of_nonneg (by omega)]; omega
      have hw7 : IntKind.i64.wrap (1 + (m7 : Int)) = 1 + (m7 : Int) := by rw [IntKind.wrap_i64]; omega
      have hw50 : IntKind.i64.wrap (1 + (m50 : Int)) = 1 + (m50 : Int) := by rw [IntKind.wrap_i64]; omega
      have hk12 : (k : Int) < 12 := by omega
      have hk12n : k < 12 := by omega
      obtain ⟨kinv, kcard, kpos⟩ := learn_inv (a := 1 + (m7 : Int)) (c := 1 + (m50 : Int)) KI.out (by omega) (by omega)
      have CL := hid (fun W h => implLearn_any va l vc (1 + (m7 : Int)) (1 + (m50 : Int)) (by omega) W h)
      unfold LearnDid at CL
      obtain ⟨AL, hA⟩ : ∃ A, learn l (1 + (m7 : Int)) (1 + (m50 : Int)) = A := ⟨_, rfl⟩
      rw [hA] at CL kinv kcard kpos
      have KI2 := hid kinv
      have KC2 := hid kcard
      clear hA kinv kcard hm7 hm50
      have hlt : (k : Int) < 9 := by omega
      go_wp2
      have czz := cz.out
      have CT : Hid (Calls Try.prog 8 #[.slice va l.length vc, .int .i64 (1 + (m7 : Int)), .int .i64 (1 + (m50 : Int))] wr.drew fun e w5 => ∃ va' vc', e = .returned (.slice va' AL.length vc') ∧ Hid (Below wr.heap.size wr w5 ∧ KnownsAt w5 va' AL)) := by
        have hd : Below wr.heap.size wr wr.drew := below_drewN (Below.refl _ _) 1
        refine Calls.mono (CL.out _ (KA.out.on hd)) ?_
        rintro e w5 ⟨va', vc', rfl, _, ho, b5⟩
        exact ⟨va', vc', rfl, below_via hd b5, ho.knowns⟩
      clear CL
      go_region_with (first | (go_at_call 8; refine Calls.mono CT.out ?_; rintro e w5 ⟨va', vc', rfl, H5⟩))
      all_goals
        have B5 := hid (below_via BR.out H5.out.1)
        have K5 := hid H5.out.2
        have z5 := (H5.out.1.cell (p := ⟨gp, k, none⟩) (World.block_lt_of_cell? wr _ cz.out)).trans cz.out
        have Z5 := cell_regrown z5
        have hA4 := KI2.out.few
        have h4 : decide ((4 : Int) < (AL.length : Int)) = false := by simp; omega
        have C' := fun d os => Calls.regrown_of (w := w5) (d := d) (os := os) (implCardOf_any va' AL vc' (1 + (m7 : Int)) (by omega) _ (K5.out.on (below_regrown w5 d os)))
        rw [KC2.out] at C'
        have CC := hid C'
        clear C' H5 CT cz czz z5 BR KA
        go_wp2
        refine wp_region_quiet_below (by kernel_rfl) (by kernel_rfl) ?_
        repeat (first | go_big_quiet_step (first | (go_at_call 9; exact CC.out _ _) | fail) | quiet_step (first | (go_at_call 9; exact CC.out _ _) | fail))
        refine wpQuiet_nil ?_
        intro _ hw'
        obtain ⟨⟨dq, osq⟩, hw''⟩ := hw'
        subst hw''
        have bq := below_regrown w5 dq osq
        have BQ := hid (below_via B5.out bq)
        have KQ := hid (K5.out.on bq)
        generalize Go.Sort.grow (redrawn w5 dq) osq = wq at bq BQ KQ ⊢
        have h4' : ¬ (4 : Int) < (AL.length : Int) := by omega
        clear bq CC Z5 B5 K5 h4
        go_wp2
        go_loopg [6] AL.length (fun q i wr => ∃ (j : Nat), j + q = AL.length ∧ i = .int .i64 j ∧ Hid (Below w2.heap.size w2 wr) ∧ Hid (KnownsAt wr va' AL))
        case atStart => exact ⟨0, by omega, rfl, BQ, KQ⟩
        case round =>
          obtain ⟨j, hjq, rfl, BJ, KJ⟩ := hrel
          clear BQ KQ
          cases gk with
          | zero =>
            have hlt : ¬ (j : Int) < (AL.length : Int) := by omega
            go_wp2
            go_roundg g
            case measure => omega
            case rel => exact ⟨k + 1, AL, va', vc', by omega, by go_num, rfl, KI2, (show 0 < k + 1 → _ from fun _ => kpos), BJ, KJ⟩
          | succ q =>
            have hlt : j < AL.length := by omega
            have hlt' : (j : Int) < (AL.length : Int) := by omega
            go_wp2
            go_loopg [7] j (fun r i wr => ∃ (m : Nat), m + r = j ∧ i = .int .i64 m ∧ Hid (Below w2.heap.size w2 wr) ∧ Hid (KnownsAt wr va' AL))
            case atStart => exact ⟨0, by omega, rfl, BJ, KJ⟩
            case round =>
              obtain ⟨m, hmr, rfl, BM, KM⟩ := hrel
              clear BJ KJ
              cases gk with
              | zero =>
                have hltm : ¬ (m : Int) < (j : Int) := by omega
                go_wp2
                go_roundg q
                case measure => omega
                case rel => exact ⟨j + 1, by omega, by go_num, BM, KM⟩
              | succ r =>
                have hltm : m < j := by omega
                have hltm' : (m : Int) < (j : Int) := by omega
                have hltA : m < AL.length := by omega
                have hltA' : (m : Int) < (AL.length : Int) := by omega
                have hne := KI2.out.apart hlt hltm
                obtain ⟨b, off, hva, hc⟩ := KM.out (by intro e; rw [e] at hlt; simp at hlt)
                subst hva
                obtain ⟨y0, y1⟩ := hc m hltA
                obtain ⟨x0, x1⟩ := hc j hlt
                clear hc y1 x1
                have hned : decide (AL[m].addr = AL[j].addr) = false := by simpa using hne
                go_wp2
                go_quiet (fail)
                have BD := hid (fun nq => below_drewN BM.out nq)
                have KD := hid (fun nq => KM.out.on (below_drewN (Below.refl _ _) nq))
                go_wp2
                go_roundg r
                case measure => omega
                case rel => exact ⟨m + 1, by omega, by go_num, BD.out _, KD.out _⟩

theorem own : ownKnob Try.prog.godebug = none := by kernel_rfl
theorem laidOut : laidOutB Try.prog = true := by kernel_rfl
theorem rowed : varsRowed Try.prog Rows.fnKnownSpec.vars = true := by kernel_rfl
set_option maxRecDepth 1000000 in
theorem contract (H : Type) (enc : TypeId × Value → H) (W : World) (base : Nat) (args : Array Value) (ds gs : List (DataW H)) (before : List MemPlace)
    (hval : ∀ (j : Nat) t v, Try.f3.params[j]? = some t → args[j]? = some v → Value.okWide Try.prog W .any base t v)
    (hW : DataW.Whole enc Try.prog Try.f3.params.toList Rows.fnKnownSpec.vars false W args.toList ds gs before) (_hL : laidMetH Try.prog Rows.fnKnownRow.laid W) :
    Calls Try.prog 3 args W fun e W' => ∃ v, e = .returned v ∧ Rows.fnKnownSpec.post enc Try.prog Try.f3 false true false false W args v W' := by
  have hW' := hW
  obtain ⟨p, q, hA0, hV0, rfl, hfz, hnd⟩ := hW
  have hV : DataW.TrodVars enc Try.prog W (fun _ => true) Rows.fnKnownSpec.vars gs q := hV0
  have hA : DataW.TrodAll enc Try.prog W 0 (fun _ => true) true Try.f3.params.toList args.toList ds p := hA0
  rw [Try.params3] at hA hval
  obtain ⟨v0, vs0, d0, ds0, p0, q0, hargs0, rfl, rfl, h0, r0⟩ := trodAll_cons hA
  obtain ⟨rfl, rfl, rfl⟩ := trodAll_nil r0
  obtain rfl : args = #[v0] := by cases args; simp_all
  obtain ⟨a0, len0, cap0, rfl⟩ := okWide_slice Try.underlying22 (hval 0 22 v0 rfl rfl)
  have k0 := h0
  have lt0 : ∀ x ∈ p0, x.block < W.heap.size := by obtain ⟨m, hm⟩ := k0; exact DataW.trod_lt m _ _ _ hm
  have hb0 : len0 ≤ cap0 ∧ Bytes W a0 len0 := by
    obtain ⟨fuel, hf⟩ := h0
    rcases open_ints Try.underlying22 Try.underlying5 (by kernel_rfl) hf with ⟨hcs, _⟩ | ⟨x, l, c, zs, hcs, _, hl, hm, hz, _, hcell, hwz⟩
    · simp [Value.cells] at hcs
      obtain ⟨rfl, rfl, rfl⟩ := hcs
      exact ⟨Nat.le_refl _, fun h => by omega⟩
    · simp [Value.cells] at hcs
      obtain ⟨rfl, rfl, rfl⟩ := hcs
      refine ⟨hl, fun hp => ?_⟩
      have hzl : zs.length = cap0 := by simpa using hz
      obtain ⟨b, off, rfl, hc⟩ := ints_at hcell (by omega)
      refine ⟨b, off, rfl, fun j hj => ?_⟩
      have hjz : j < zs.length := by omega
      have hb8 := bounds_u8 (hwz (zs.getD j 0) (by simp [List.getD, hjz]))
      exact ⟨zs.getD j 0, hb8.1, hb8.2, hc j hjz⟩
  clear hA0 hV0
  obtain ⟨rfl, rfl⟩ := trodVars_none hV
  refine (walk a0 len0 cap0 hb0.1 W hb0.2).mono fun e W' ⟨he, bel⟩ => ?_
  subst he
  exact ⟨_, rfl, _, _, _, [], _, [], hW', trodAll_mk1 (shut_bool Try.underlying4 _), trodAll_cons_mk (Below.trod laidOut (by kernel_rfl) (of_decide_eq_true (by kernel_rfl)) k0 bel lt0) (trodAll_mk0), rfl, bel.frame _, fun h => by cases h⟩

def put (cs : Array Value) : Obj → Obj
  | .cells _ t frozen => .cells cs t frozen
  | o => o

/-- a world for the witness: the tables hold what their initialisers lay -/
def laidWorld (w : World) : World := { w with heap := w.heap }
theorem laid_met (os : Os) : laidMet Try.prog Rows.fnKnownRow.laid ((laidWorld (World.holding Try.prog os ⟨#[], #[], []⟩)).forCall (fun _ _ => 0) ⟨#[], #[.slice none 0 0], []⟩).memory :=
  laidMet_of_run' 8 (by kernel_rfl) (by kernel_rfl)
theorem reads (os : Os) {H : Type} (enc : TypeId × Value → H) : ∃ places, DataW.whole enc Try.prog ((laidWorld (World.holding Try.prog os ⟨#[], #[], []⟩)).forCall (fun _ _ => 0) ⟨#[], #[.slice none 0 0], []⟩).memory Try.f3.params.toList Rows.fnKnownSpec.vars false #[Value.slice none 0 0].toList 8 = some ([.nil], [], places) :=
  ⟨[], by kernel_rfl⟩

set_option maxRecDepth 1000000 in
theorem lifted (os : Os) (started : os.Started) (H : Type) (enc : TypeId × Value → H) (F : Stop.Interp) :
    ReturnsInHanded {} Try.checked os 3 .any ((OpenSpec.ofChange Rows.fnKnownSpec).preRow enc Try.prog Try.f3 Rows.fnKnownRow.domain false Rows.fnKnownRow.laid) (((OpenSpec.ofChange Rows.fnKnownSpec).at F).post enc Try.prog Try.f3 false true false false) := by
  obtain ⟨places, hx⟩ := reads os enc
  refine returnsInHanded_of_row (C := Try.checked) (s := OpenSpec.ofChange Rows.fnKnownSpec) own started (by kernel_rfl) Try.func3
    (witness_row_at (enc := enc) (C := Try.checked) false (laidWorld (World.holding Try.prog os ⟨#[], #[], []⟩)) #[.slice none 0 0] rfl (by kernel_rfl) (by kernel_rfl) (by kernel_rfl)
      (OpenSpec.preRow_of_cond 8 hx (by kernel_rfl) (fun k hk => by cases hk) (by kernel_rfl) (laid_met os))) ?_
  intro W base args ds gs before hval hW _ _ _ hL _ _
  exact contract H enc W base args ds gs before hval hW hL

theorem said : Rows.FnKnownSaid :=
  OpenClaim.holds_of_cond 3 Try.f3 rfl rfl rfl rfl rfl rfl rfl ⟨rfl, rfl, rfl, rfl, rfl⟩ rfl rfl rfl rfl rfl (by kernel_rfl) Try.func3 (by kernel_rfl)
    (of_decide_eq_true (by kernel_rfl)) (by unfold Func.isWrapper; first | (rw [if_pos (by decide +kernel)]; kernel_rfl) | (rw [if_neg (by decide +kernel)]; exact ⟨rfl, rfl⟩))
    (fun os started H enc _ F => by rw [OpenClaim.pre_eq_preRow]; exact lifted os started H enc F)

end Go.Proofs.Ytneociicjidcnaa.fnKnown
