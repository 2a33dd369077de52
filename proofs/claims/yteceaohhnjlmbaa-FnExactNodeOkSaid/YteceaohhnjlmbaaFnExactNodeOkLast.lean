/-
  For every node, laws.FnExactNodeOk returns true: impl.NodeOk and spec.NodeOk answer alike; nothing that was in memory is written.
-/
import Derived.Test.YteceaohhnjlmbaaRows
import Derived.Test.YteceaohhnjlmbaaJoint9
import Derived.Test.YteceaohhnjlmbaaJoint11
import Derived.Test.YteceaohhnjlmbaaJoint15
import Derived.Test.YteceaohhnjlmbaaJoint19
import Derived.Test.YteceaohhnjlmbaaJoint28
import Derived.Test.YteceaohhnjlmbaaJoint44
import Derived.Deep.RegionWith
import Derived.WalkSmall
import Derived.WalkKit
import Derived.ProofKit
import Derived.OpenShut
import Derived.OpenVars
import Derived.Deep.DeepHandedRow
import Derived.Lib.LaidTab
import Derived.Stop.LaidErr
namespace Go.Proofs.Yteceaohhnjlmbaa.fnExactNodeOk
open Go.ChangeShapes Go.WideShapes Go.ChangeAt Go.ChangeMaps Go.RowKit

set_option maxRecDepth 1000000 in
set_option maxHeartbeats 4000000 in
theorem walk (d : NodeD) (hd : d.Fits) (p : NodeL) (w : World) (ha : NodeAt w d p) :
    Calls Try.prog 3 #[.agg #[.int .i64 d.id, .int .i64 d.term, .int .i64 d.vote, .int .i64 d.role, .int .i64 d.lead, .slice p.co d.conf.length p.cc, .int .i64 d.start, .int .i64 d.sterm, .slice p.eo d.ents.length p.ec, .int .i64 d.commit, .int .i64 d.clock, .int .i64 d.limit, .slice p.vo d.votes.length p.vc, .slice p.po d.peers.length p.pc]] w fun e w' => e = .returned (.bool true) ∧ Below w.heap.size w w' := by
  have HA := hid ha
  have cSz := hid (fun w ha => szNode_any d p hd w ha)
  have HX := hid (show BlockIs (w.alloc (.cells #[.int .i64 d.id, .int .i64 d.term, .int .i64 d.vote, .int .i64 d.role, .int .i64 d.lead, .slice p.co d.conf.length p.cc, .int .i64 d.start, .int .i64 d.sterm, .slice p.eo d.ents.length p.ec, .int .i64 d.commit, .int .i64 d.clock, .int .i64 d.limit, .slice p.vo d.votes.length p.vc, .slice p.po d.peers.length p.pc] 28)) w.heap.size 28 [.int .i64 d.id, .int .i64 d.term, .int .i64 d.vote, .int .i64 d.role, .int .i64 d.lead, .slice p.co d.conf.length p.cc, .int .i64 d.start, .int .i64 d.sterm, .slice p.eo d.ents.length p.ec, .int .i64 d.commit, .int .i64 d.clock, .int .i64 d.limit, .slice p.vo d.votes.length p.vc, .slice p.po d.peers.length p.pc] from heap_alloc_new w _)
  have HB := hid (below_more (Below.refl w.heap.size w) (.cells #[.int .i64 d.id, .int .i64 d.term, .int .i64 d.vote, .int .i64 d.role, .int .i64 d.lead, .slice p.co d.conf.length p.cc, .int .i64 d.start, .int .i64 d.sterm, .slice p.eo d.ents.length p.ec, .int .i64 d.commit, .int .i64 d.clock, .int .i64 d.limit, .slice p.vo d.votes.length p.vc, .slice p.po d.peers.length p.pc] 28))
  clear ha
  go_enter Try.func3, Try.ntmps3
  go_wp2_with fail
  refine (cSz.out _ (HA.out.on HB.out)).mono ?_
  rintro e w1 ⟨(⟨hneg, rfl⟩ | ⟨hnn, x, hx0, rfl⟩), b1⟩
  · have B1 := hid (below_via HB.out b1)
    clear b1 cSz HB HX hneg
    go_wp2
    go_ret
    exact ⟨rfl, B1.out⟩
  · have B1 := hid (below_via HB.out b1)
    have X1 := hid (HX.out.on b1 HX.out.lt)
    have x10 := X1.out.cell (j := 0) rfl
    have x11 := X1.out.cell (j := 1) rfl
    have x12 := X1.out.cell (j := 2) rfl
    have x13 := X1.out.cell (j := 3) rfl
    have x14 := X1.out.cell (j := 4) rfl
    have x15 := X1.out.cell (j := 5) rfl
    have x16 := X1.out.cell (j := 6) rfl
    have x17 := X1.out.cell (j := 7) rfl
    have x18 := X1.out.cell (j := 8) rfl
    have x19 := X1.out.cell (j := 9) rfl
    have x110 := X1.out.cell (j := 10) rfl
    have x111 := X1.out.cell (j := 11) rfl
    have x112 := X1.out.cell (j := 12) rfl
    have x113 := X1.out.cell (j := 13) rfl
    have HSM := hid (nodeSmall hnn)
    clear b1 cSz HB HX hnn
    go_wp2_with fail
    refine (toNode_any d p HSM.out _ (HA.out.on B1.out)).mono ?_
    rintro e w2 ⟨g2, h2, i2, j2, hg2, hh2, hi2, hj2, rfl, k2, b2⟩
    have B2 := hid (below_via B1.out b2)
    have X2 := hid (X1.out.on b2 X1.out.lt)
    have x20 := X2.out.cell (j := 0) rfl
    have x21 := X2.out.cell (j := 1) rfl
    have x22 := X2.out.cell (j := 2) rfl
    have x23 := X2.out.cell (j := 3) rfl
    have x24 := X2.out.cell (j := 4) rfl
    have x25 := X2.out.cell (j := 5) rfl
    have x26 := X2.out.cell (j := 6) rfl
    have x27 := X2.out.cell (j := 7) rfl
    have x28 := X2.out.cell (j := 8) rfl
    have x29 := X2.out.cell (j := 9) rfl
    have x210 := X2.out.cell (j := 10) rfl
    have x211 := X2.out.cell (j := 11) rfl
    have x212 := X2.out.cell (j := 12) rfl
    have x213 := X2.out.cell (j := 13) rfl
    have F2 := hid k2
    clear b2 k2 x10 x11 x12 x13 x14 x15 x16 x17 x18 x19 x110 x111 x112 x113 X1 hg2 hh2 hi2 hj2
    go_wp2_with fail
    refine (specNodeOk_any d (nodeNew d g2 h2 i2 j2) HSM.out _ F2.out.at).mono ?_
    rintro e w3 ⟨rfl, b3⟩
    have B3 := hid (below_via B2.out b3)
    have X3 := hid (X2.out.on b3 X2.out.lt)
    have x30 := X3.out.cell (j := 0) rfl
    have x31 := X3.out.cell (j := 1) rfl
    have x32 := X3.out.cell (j := 2) rfl
    have x33 := X3.out.cell (j := 3) rfl
    have x34 := X3.out.cell (j := 4) rfl
    have x35 := X3.out.cell (j := 5) rfl
    have x36 := X3.out.cell (j := 6) rfl
    have x37 := X3.out.cell (j := 7) rfl
    have x38 := X3.out.cell (j := 8) rfl
    have x39 := X3.out.cell (j := 9) rfl
    have x310 := X3.out.cell (j := 10) rfl
    have x311 := X3.out.cell (j := 11) rfl
    have x312 := X3.out.cell (j := 12) rfl
    have x313 := X3.out.cell (j := 13) rfl
    clear b3 x20 x21 x22 x23 x24 x25 x26 x27 x28 x29 x210 x211 x212 x213 X2 F2
    generalize hr : nodeOk d = r
    have HR := hid hr
    clear hr
    have hrr : (r == r) = true := beq_self_eq_true r
    have hrn : (r != r) = false := by simp
    go_wp2_with fail
    refine (toNode_any d p HSM.out _ (HA.out.on B3.out)).mono ?_
    rintro e w4 ⟨g4, h4, i4, j4, hg4, hh4, hi4, hj4, rfl, k4, b4⟩
    have B4 := hid (below_via B3.out b4)
    have X4 := hid (X3.out.on b4 X3.out.lt)
    have x40 := X4.out.cell (j := 0) rfl
    have x41 := X4.out.cell (j := 1) rfl
    have x42 := X4.out.cell (j := 2) rfl
    have x43 := X4.out.cell (j := 3) rfl
    have x44 := X4.out.cell (j := 4) rfl
    have x45 := X4.out.cell (j := 5) rfl
    have x46 := X4.out.cell (j := 6) rfl
    have x47 := X4.out.cell (j := 7) rfl
    have x48 := X4.out.cell (j := 8) rfl
    have x49 := X4.out.cell (j := 9) rfl
    have x410 := X4.out.cell (j := 10) rfl
    have x411 := X4.out.cell (j := 11) rfl
    have x412 := X4.out.cell (j := 12) rfl
    have x413 := X4.out.cell (j := 13) rfl
    have F4 := hid k4.at
    clear b4 k4 x30 x31 x32 x33 x34 x35 x36 x37 x38 x39 x310 x311 x312 x313 X3 hg4 hh4 hi4 hj4
    have hb5 := below_more (Below.refl w4.heap.size w4) (.cells #[.int .i64 d.id, .int .i64 d.term, .int .i64 d.vote, .int .i64 d.role, .int .i64 d.lead, .slice (some ⟨g4, 0, none⟩) d.conf.length d.conf.length, .int .i64 d.start, .int .i64 d.sterm, .slice (some ⟨h4, 0, none⟩) d.ents.length d.ents.length, .int .i64 d.commit, .int .i64 d.clock, .int .i64 d.limit, .slice (some ⟨i4, 0, none⟩) d.votes.length d.votes.length, .slice (some ⟨j4, 0, none⟩) d.peers.length d.peers.length] 36)
    have hx5 : BlockIs (w4.alloc (.cells #[.int .i64 d.id, .int .i64 d.term, .int .i64 d.vote, .int .i64 d.role, .int .i64 d.lead, .slice (some ⟨g4, 0, none⟩) d.conf.length d.conf.length, .int .i64 d.start, .int .i64 d.sterm, .slice (some ⟨h4, 0, none⟩) d.ents.length d.ents.length, .int .i64 d.commit, .int .i64 d.clock, .int .i64 d.limit, .slice (some ⟨i4, 0, none⟩) d.votes.length d.votes.length, .slice (some ⟨j4, 0, none⟩) d.peers.length d.peers.length] 36)) w4.heap.size 36 [.int .i64 d.id, .int .i64 d.term, .int .i64 d.vote, .int .i64 d.role, .int .i64 d.lead, .slice (some ⟨g4, 0, none⟩) d.conf.length d.conf.length, .int .i64 d.start, .int .i64 d.sterm, .slice (some ⟨h4, 0, none⟩) d.ents.length d.ents.length, .int .i64 d.commit, .int .i64 d.clock, .int .i64 d.limit, .slice (some ⟨i4, 0, none⟩) d.votes.length d.votes.length, .slice (some ⟨j4, 0, none⟩) d.peers.length d.peers.length] := heap_alloc_new w4 _
    have hX5 := X4.out.on hb5 X4.out.lt
    have hF5 := F4.out.on hb5
    have H5 := hid (And.intro hb5 (And.intro hx5 (And.intro hX5 hF5)))
    clear hb5 hx5 hX5 hF5 F4
    go_wp2_with fail
    refine (implNodeOk_any d (nodeNew d g4 h4 i4 j4) HSM.out _ H5.out.2.2.2).mono ?_
    rintro e w6 ⟨rfl, b6⟩
    rw [HR.out]
    have B6 := hid (below_via B4.out (below_via H5.out.1 b6))
    have X6 := hid (H5.out.2.2.1.on b6 H5.out.2.2.1.lt)
    have x60 := X6.out.cell (j := 0) rfl
    have x61 := X6.out.cell (j := 1) rfl
    have x62 := X6.out.cell (j := 2) rfl
    have x63 := X6.out.cell (j := 3) rfl
    have x64 := X6.out.cell (j := 4) rfl
    have x65 := X6.out.cell (j := 5) rfl
    have x66 := X6.out.cell (j := 6) rfl
    have x67 := X6.out.cell (j := 7) rfl
    have x68 := X6.out.cell (j := 8) rfl
    have x69 := X6.out.cell (j := 9) rfl
    have x610 := X6.out.cell (j := 10) rfl
    have x611 := X6.out.cell (j := 11) rfl
    have x612 := X6.out.cell (j := 12) rfl
    have x613 := X6.out.cell (j := 13) rfl
    have Y6 := hid (H5.out.2.1.on b6 H5.out.2.1.lt)
    have y60 := Y6.out.cell (j := 0) rfl
    have y61 := Y6.out.cell (j := 1) rfl
    have y62 := Y6.out.cell (j := 2) rfl
    have y63 := Y6.out.cell (j := 3) rfl
    have y64 := Y6.out.cell (j := 4) rfl
    have y65 := Y6.out.cell (j := 5) rfl
    have y66 := Y6.out.cell (j := 6) rfl
    have y67 := Y6.out.cell (j := 7) rfl
    have y68 := Y6.out.cell (j := 8) rfl
    have y69 := Y6.out.cell (j := 9) rfl
    have y610 := Y6.out.cell (j := 10) rfl
    have y611 := Y6.out.cell (j := 11) rfl
    have y612 := Y6.out.cell (j := 12) rfl
    have y613 := Y6.out.cell (j := 13) rfl
    have F6 := hid (H5.out.2.2.2.on b6)
    have CT : Hid (Calls Try.prog 8 #[.agg #[.int .i64 d.id, .int .i64 d.term, .int .i64 d.vote, .int .i64 d.role, .int .i64 d.lead, .slice p.co d.conf.length p.cc, .int .i64 d.start, .int .i64 d.sterm, .slice p.eo d.ents.length p.ec, .int .i64 d.commit, .int .i64 d.clock, .int .i64 d.limit, .slice p.vo d.votes.length p.vc, .slice p.po d.peers.length p.pc]] w6.drew fun e w7 => ∃ g7 h7 i7 j7, e = .returned (.agg #[.int .i64 d.id, .int .i64 d.term, .int .i64 d.vote, .int .i64 d.role, .int .i64 d.lead, .slice (some ⟨g7, 0, none⟩) d.conf.length d.conf.length, .int .i64 d.start, .int .i64 d.sterm, .slice (some ⟨h7, 0, none⟩) d.ents.length d.ents.length, .int .i64 d.commit, .int .i64 d.clock, .int .i64 d.limit, .slice (some ⟨i7, 0, none⟩) d.votes.length d.votes.length, .slice (some ⟨j7, 0, none⟩) d.peers.length d.peers.length]) ∧ (w7.cell? ⟨w4.heap.size, 0, none⟩ = some (.int .i64 d.id) ∧ w7.cell? ⟨w4.heap.size, 1, none⟩ = some (.int .i64 d.term) ∧ w7.cell? ⟨w4.heap.size, 2, none⟩ = some (.int .i64 d.vote) ∧ w7.cell? ⟨w4.heap.size, 3, none⟩ = some (.int .i64 d.role) ∧ w7.cell? ⟨w4.heap.size, 4, none⟩ = some (.int .i64 d.lead) ∧ w7.cell? ⟨w4.heap.size, 5, none⟩ = some (.slice (some ⟨g4, 0, none⟩) d.conf.length d.conf.length) ∧ w7.cell? ⟨w4.heap.size, 6, none⟩ = some (.int .i64 d.start) ∧ w7.cell? ⟨w4.heap.size, 7, none⟩ = some (.int .i64 d.sterm) ∧ w7.cell? ⟨w4.heap.size, 8, none⟩ = some (.slice (some ⟨h4, 0, none⟩) d.ents.length d.ents.length) ∧ w7.cell? ⟨w4.heap.size, 9, none⟩ = some (.int .i64 d.commit) ∧ w7.cell? ⟨w4.heap.size, 10, none⟩ = some (.int .i64 d.clock) ∧ w7.cell? ⟨w4.heap.size, 11, none⟩ = some (.int .i64 d.limit) ∧ w7.cell? ⟨w4.heap.size, 12, none⟩ = some (.slice (some ⟨i4, 0, none⟩) d.votes.length d.votes.length) ∧ w7.cell? ⟨w4.heap.size, 13, none⟩ = some (.slice (some ⟨j4, 0, none⟩) d.peers.length d.peers.length)) ∧ Hid (Below w.heap.size w w7 ∧ NodeAt w7 d (nodeNew d g4 h4 i4 j4) ∧ NodeAt w7 d (nodeNew d g7 h7 i7 j7))) := by
      have hd : Below w6.heap.size w6 w6.drew := below_drewN (Below.refl _ _) 1
      refine Calls.mono (toNode_any d p HSM.out w6.drew (HA.out.on (below_via B6.out hd))) ?_
      rintro e w7 ⟨g7, h7, i7, j7, _, _, _, _, rfl, k7, b7⟩
      have h67 := below_via hd b7
      have k6 := Y6.out.on h67 Y6.out.lt
      exact ⟨g7, h7, i7, j7, rfl, ⟨k6.cell (j := 0) rfl, k6.cell (j := 1) rfl, k6.cell (j := 2) rfl, k6.cell (j := 3) rfl, k6.cell (j := 4) rfl, k6.cell (j := 5) rfl, k6.cell (j := 6) rfl, k6.cell (j := 7) rfl, k6.cell (j := 8) rfl, k6.cell (j := 9) rfl, k6.cell (j := 10) rfl, k6.cell (j := 11) rfl, k6.cell (j := 12) rfl, k6.cell (j := 13) rfl⟩, below_via B6.out h67, F6.out.on h67, k7.at⟩
    clear b6 H5 X4 x40 x41 x42 x43 x44 x45 x46 x47 x48 x49 x410 x411 x412 x413 B3 B2 B1 B4
    go_wp2
    go_region_with (first | (go_at_call 8; refine Calls.mono CT.out ?_; rintro e w7 ⟨g7, h7, i7, j7, rfl, ⟨y70, y71, y72, y73, y74, y75, y76, y77, y78, y79, y710, y711, y712, y713⟩, H7⟩) | (go_at_call 10; refine (eqNode_same d (nodeNew d g4 h4 i4 j4) (nodeNew d g7 h7 i7 j7) HSM.out _ H7.out.2.1 H7.out.2.2).mono ?_; rintro e w8 ⟨rfl, b8⟩))
    all_goals
      have B8 := hid (below_via H7.out.1 b8)
      clear b8 H7
      go_wp2
      go_ret
      exact ⟨rfl, B8.out⟩

theorem own : ownKnob Try.prog.godebug = none := by kernel_rfl
theorem laidOut : laidOutB Try.prog = true := by kernel_rfl
theorem rowed : varsRowed Try.prog Rows.fnExactNodeOkSpec.vars = true := by kernel_rfl
set_option maxRecDepth 1000000 in
theorem contract (H : Type) (enc : TypeId × Value → H) (W : World) (base : Nat) (args : Array Value) (ds gs : List (DataW H)) (before : List MemPlace)
    (hval : ∀ (j : Nat) t v, Try.f3.params[j]? = some t → args[j]? = some v → Value.okWide Try.prog W .any base t v)
    (hW : DataW.Whole enc Try.prog Try.f3.params.toList Rows.fnExactNodeOkSpec.vars false W args.toList ds gs before) (_hL : laidMetH Try.prog Rows.fnExactNodeOkRow.laid W) :
    Calls Try.prog 3 args W fun e W' => ∃ v, e = .returned v ∧ Rows.fnExactNodeOkSpec.post enc Try.prog Try.f3 false true false false W args v W' := by
  have hW' := hW
  obtain ⟨p, q, hA0, hV0, rfl, hfz, hnd⟩ := hW
  have hV : DataW.TrodVars enc Try.prog W (fun _ => true) Rows.fnExactNodeOkSpec.vars gs q := hV0
  have hA : DataW.TrodAll enc Try.prog W 0 (fun _ => true) true Try.f3.params.toList args.toList ds p := hA0
  rw [Try.params3] at hA hval
  obtain ⟨v0, vs0, d0, ds0, p0, q0, hargs0, rfl, rfl, h0, r0⟩ := trodAll_cons hA
  obtain ⟨rfl, rfl, rfl⟩ := trodAll_nil r0
  obtain rfl : args = #[v0] := by cases args; simp_all
  have k0 := h0
  have lt0 : ∀ x ∈ p0, x.block < W.heap.size := by obtain ⟨m, hm⟩ := k0; exact DataW.trod_lt m _ _ _ hm
  obtain ⟨a0, q0, rfl, hfd0, hat0⟩ := open_node (hval 0 28 v0 rfl rfl) h0
  clear hA0 hV0
  obtain ⟨rfl, rfl⟩ := trodVars_none hV
  refine (walk a0 hfd0 q0 W hat0).mono fun e W' ⟨he, bel⟩ => ?_
  subst he
  exact ⟨_, rfl, _, _, _, [], _, [], hW', trodAll_mk1 (shut_bool Try.underlying4 _), trodAll_cons_mk (Below.trod laidOut (by kernel_rfl) (of_decide_eq_true (by kernel_rfl)) k0 bel lt0) (trodAll_mk0), rfl, bel.frame _, fun h => by cases h⟩

def put (cs : Array Value) : Obj → Obj
  | .cells _ t frozen => .cells cs t frozen
  | o => o

/-- a world for the witness: the tables hold what their initialisers lay -/
def laidWorld (w : World) : World := { w with heap := w.heap }
theorem laid_met (os : Os) : laidMet Try.prog Rows.fnExactNodeOkRow.laid ((laidWorld (World.holding Try.prog os ⟨#[], #[], []⟩)).forCall (fun _ _ => 0) ⟨#[], #[.agg #[.int .i64 0, .int .i64 0, .int .i64 0, .int .i64 0, .int .i64 0, .slice none 0 0, .int .i64 0, .int .i64 0, .slice none 0 0, .int .i64 0, .int .i64 0, .int .i64 0, .slice none 0 0, .slice none 0 0]], []⟩).memory :=
  laidMet_of_run' 8 (by kernel_rfl) (by kernel_rfl)
theorem reads (os : Os) {H : Type} (enc : TypeId × Value → H) : ∃ places, DataW.whole enc Try.prog ((laidWorld (World.holding Try.prog os ⟨#[], #[], []⟩)).forCall (fun _ _ => 0) ⟨#[], #[.agg #[.int .i64 0, .int .i64 0, .int .i64 0, .int .i64 0, .int .i64 0, .slice none 0 0, .int .i64 0, .int .i64 0, .slice none 0 0, .int .i64 0, .int .i64 0, .int .i64 0, .slice none 0 0, .slice none 0 0]], []⟩).memory Try.f3.params.toList Rows.fnExactNodeOkSpec.vars false #[Value.agg #[.int .i64 0, .int .i64 0, .int .i64 0, .int .i64 0, .int .i64 0, .slice none 0 0, .int .i64 0, .int .i64 0, .slice none 0 0, .int .i64 0, .int .i64 0, .int .i64 0, .slice none 0 0, .slice none 0 0]].toList 8 = some ([.agg [.lit (.int .i64 0), .lit (.int .i64 0), .lit (.int .i64 0), .lit (.int .i64 0), .lit (.int .i64 0), .nil, .agg [.lit (.int .i64 0), .lit (.int .i64 0), .nil], .lit (.int .i64 0), .lit (.int .i64 0), .lit (.int .i64 0), .nil, .nil]], [], places) :=
  ⟨[], by kernel_rfl⟩

set_option maxRecDepth 1000000 in
theorem lifted (os : Os) (started : os.Started) (H : Type) (enc : TypeId × Value → H) (F : Stop.Interp) :
    ReturnsInHanded {} Try.checked os 3 .any ((OpenSpec.ofChange Rows.fnExactNodeOkSpec).preRow enc Try.prog Try.f3 Rows.fnExactNodeOkRow.domain false Rows.fnExactNodeOkRow.laid) (((OpenSpec.ofChange Rows.fnExactNodeOkSpec).at F).post enc Try.prog Try.f3 false true false false) := by
  obtain ⟨places, hx⟩ := reads os enc
  refine returnsInHanded_of_row (C := Try.checked) (s := OpenSpec.ofChange Rows.fnExactNodeOkSpec) own started (by kernel_rfl) Try.func3
    (witness_row_at (enc := enc) (C := Try.checked) false (laidWorld (World.holding Try.prog os ⟨#[], #[], []⟩)) #[.agg #[.int .i64 0, .int .i64 0, .int .i64 0, .int .i64 0, .int .i64 0, .slice none 0 0, .int .i64 0, .int .i64 0, .slice none 0 0, .int .i64 0, .int .i64 0, .int .i64 0, .slice none 0 0, .slice none 0 0]] rfl (by kernel_rfl) (by kernel_rfl) (by kernel_rfl)
      (OpenSpec.preRow_of_cond 8 hx (by kernel_rfl) (fun k hk => by cases hk) (by kernel_rfl) (laid_met os))) ?_
  intro W base args ds gs before hval hW _ _ _ hL _ _
  exact contract H enc W base args ds gs before hval hW hL

theorem said : Rows.FnExactNodeOkSaid :=
  OpenClaim.holds_of_cond 3 Try.f3 rfl rfl rfl rfl rfl rfl rfl ⟨rfl, rfl, rfl, rfl, rfl⟩ rfl rfl rfl rfl rfl (by kernel_rfl) Try.func3 (by kernel_rfl)
    (of_decide_eq_true (by kernel_rfl)) (by unfold Func.isWrapper; first | (rw [if_pos (by decide +kernel)]; kernel_rfl) | (rw [if_neg (by decide +kernel)]; exact ⟨rfl, rfl⟩))
    (fun os started H enc _ F => by rw [OpenClaim.pre_eq_preRow]; exact lifted os started H enc F)

end Go.Proofs.Yteceaohhnjlmbaa.fnExactNodeOk
