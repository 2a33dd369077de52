/-
  For every message, laws.FnExactEncode returns true: impl.Encode and spec.Encode answer alike; nothing that was in memory is written.
-/
import Derived.Test.YtkdbdgeaceigfaaDoorCards
import Derived.Test.YtkdbdgeaceigfaaDoorTie
import Derived.Test.YtkdbdgeaceigfaaDoorJoint7
import Derived.Test.YtkdbdgeaceigfaaDoorJoint9
import Derived.Test.YtkdbdgeaceigfaaDoorJoint11
import Derived.Test.YtkdbdgeaceigfaaDoorJoint13
import Derived.Test.YtkdbdgeaceigfaaDoorJoint24
import Derived.Test.YtkdbdgeaceigfaaDoorJoint44
import Derived.Deep.RegionWith
import Derived.WalkSmall
import Derived.WalkKit
import Derived.ProofKit
import Derived.OpenShut
import Derived.OpenVars
import Derived.Deep.DeepHandedRow
import Derived.Lib.LaidTab
import Derived.Stop.LaidErr
namespace Go.Proofs.YtkdbdgeaceigfaaDoor.fnExactEncode
open Go.ChangeShapes Go.WideShapes Go.ChangeAt Go.ChangeMaps Go.RowKit

set_option maxRecDepth 1000000 in
set_option maxHeartbeats 4000000 in
theorem walk (d : MsgD) (hd : d.Fits) (ao : Option Addr) (ac : Nat) (hl : d.ents.length ≤ maxLen) (hf : EntsFit d.ents) (bo : Option Addr) (bc : Nat) (hl' : d.conf.length ≤ maxLen) (_hf' : IntsFit d.conf) (w : World) (ha : EntsAt w ao d.ents) (hb : IntsAt w bo d.conf) :
    Calls Tryd.prog 3 #[.agg #[.int .i64 d.kind, .int .i64 d.src, .int .i64 d.dst, .int .i64 d.term, .int .i64 d.index, .int .i64 d.logTerm, .int .i64 d.commit, .bool d.ok, .slice ao d.ents.length ac, .slice bo d.conf.length bc, .string d.data, .bool d.last]] w fun e w' => e = .returned (.bool true) ∧ Below w.heap.size w w' := by
  have HA := hid ha
  have HI := hid hb
  have cSz := hid (fun w ha => szMessage_any d ao ac bo bc hd hl hf hl' w ha)
  have HX := hid (show BlockIs (w.alloc (.cells #[.int .i64 d.kind, .int .i64 d.src, .int .i64 d.dst, .int .i64 d.term, .int .i64 d.index, .int .i64 d.logTerm, .int .i64 d.commit, .bool d.ok, .slice ao d.ents.length ac, .slice bo d.conf.length bc, .string d.data, .bool d.last] 25)) w.heap.size 25 [.int .i64 d.kind, .int .i64 d.src, .int .i64 d.dst, .int .i64 d.term, .int .i64 d.index, .int .i64 d.logTerm, .int .i64 d.commit, .bool d.ok, .slice ao d.ents.length ac, .slice bo d.conf.length bc, .string d.data, .bool d.last] from heap_alloc_new w _)
  have HB := hid (below_more (Below.refl w.heap.size w) (.cells #[.int .i64 d.kind, .int .i64 d.src, .int .i64 d.dst, .int .i64 d.term, .int .i64 d.index, .int .i64 d.logTerm, .int .i64 d.commit, .bool d.ok, .slice ao d.ents.length ac, .slice bo d.conf.length bc, .string d.data, .bool d.last] 25))
  clear ha hb
  go_enter Tryd.func3, Tryd.ntmps3
  go_wp2_with fail
  refine (cSz.out _ (HA.out.on HB.out)).mono ?_
  rintro e w1 ⟨(⟨hneg, rfl⟩ | ⟨hnn, rfl⟩), b1⟩
  · have B1 := hid (below_via HB.out b1)
    clear b1 cSz HB HX hneg hf
    go_wp2
    go_ret
    exact ⟨rfl, B1.out⟩
  · have B1 := hid (below_via HB.out b1)
    have X1 := hid (HX.out.on b1 HX.out.lt)
    have x10 := X1.out.cell (j := 0) rfl
    have x11 := X1.out.cell (j := 1) rfl
    have x12 := X1.out.cell (j := 2) rfl
    have x13 := X1.out.cell (j := 3) rfl
    have x14 := X1.out.cell (j := 4) rfl
    have x15 := X1.out.cell (j := 5) rfl
    have x16 := X1.out.cell (j := 6) rfl
    have x17 := X1.out.cell (j := 7) rfl
    have x18 := X1.out.cell (j := 8) rfl
    have x19 := X1.out.cell (j := 9) rfl
    have x110 := X1.out.cell (j := 10) rfl
    have x111 := X1.out.cell (j := 11) rfl
    have hl2 := (msgSmall hnn).ents
    have hl3 := (msgSmall hnn).conf
    have HSM := hid (msgSmall hnn)
    have hpos := hnn
    clear b1 cSz HB HX hf
    have cS' := fun ao ac bo bc w ha hb => specEncode_any d ao ac bo bc HSM.out w ha hb
    have cI' := fun ao ac bo bc w ha hb => implEncode_any d ao ac bo bc HSM.out w ha hb
    obtain ⟨T, ok, hka⟩ : ∃ T ok, encAns d = .tuple #[.string T, .bool ok] := by unfold encAns; split <;> exact ⟨_, _, rfl⟩
    rw [hka] at cS' cI'
    have cS := hid cS'
    have cI := hid cI'
    clear cS' cI' hka
    go_wp2_with fail
    refine (toMessage_any d ao ac bo bc hl2 hl3 _ (HA.out.on B1.out) (HI.out.on B1.out)).mono ?_
    rintro e w2 ⟨g2, h2, hg2, hh2, rfl, k2, j2, b2⟩
    have B2 := hid (below_via B1.out b2)
    have X2 := hid (X1.out.on b2 X1.out.lt)
    have x20 := X2.out.cell (j := 0) rfl
    have x21 := X2.out.cell (j := 1) rfl
    have x22 := X2.out.cell (j := 2) rfl
    have x23 := X2.out.cell (j := 3) rfl
    have x24 := X2.out.cell (j := 4) rfl
    have x25 := X2.out.cell (j := 5) rfl
    have x26 := X2.out.cell (j := 6) rfl
    have x27 := X2.out.cell (j := 7) rfl
    have x28 := X2.out.cell (j := 8) rfl
    have x29 := X2.out.cell (j := 9) rfl
    have x210 := X2.out.cell (j := 10) rfl
    have x211 := X2.out.cell (j := 11) rfl
    have F2 := hid (entsAt_of (l := d.ents) (r := []) (by rw [List.append_nil]; exact k2))
    have G2 := hid (intsAt_of (zs := d.conf) (r := []) (by rw [List.append_nil]; exact j2))
    clear b2 k2 j2 x10 x11 x12 x13 x14 x15 x16 x17 x18 x19 x110 x111 X1 hg2 hh2
    go_wp2_with fail
    refine (cS.out _ _ _ _ _ F2.out G2.out).mono ?_
    rintro e w3 ⟨rfl, b3⟩
    have B3 := hid (below_via B2.out b3)
    have X3 := hid (X2.out.on b3 X2.out.lt)
    have x30 := X3.out.cell (j := 0) rfl
    have x31 := X3.out.cell (j := 1) rfl
    have x32 := X3.out.cell (j := 2) rfl
    have x33 := X3.out.cell (j := 3) rfl
    have x34 := X3.out.cell (j := 4) rfl
    have x35 := X3.out.cell (j := 5) rfl
    have x36 := X3.out.cell (j := 6) rfl
    have x37 := X3.out.cell (j := 7) rfl
    have x38 := X3.out.cell (j := 8) rfl
    have x39 := X3.out.cell (j := 9) rfl
    have x310 := X3.out.cell (j := 10) rfl
    have x311 := X3.out.cell (j := 11) rfl
    clear b3 x20 x21 x22 x23 x24 x25 x26 x27 x28 x29 x210 x211 X2 F2 G2
    go_wp2_with fail
    refine (toMessage_any d ao ac bo bc hl2 hl3 _ (HA.out.on B3.out) (HI.out.on B3.out)).mono ?_
    rintro e w4 ⟨g4, h4, hg4, hh4, rfl, k4, j4, b4⟩
    have B4 := hid (below_via B3.out b4)
    have X4 := hid (X3.out.on b4 X3.out.lt)
    have x40 := X4.out.cell (j := 0) rfl
    have x41 := X4.out.cell (j := 1) rfl
    have x42 := X4.out.cell (j := 2) rfl
    have x43 := X4.out.cell (j := 3) rfl
    have x44 := X4.out.cell (j := 4) rfl
    have x45 := X4.out.cell (j := 5) rfl
    have x46 := X4.out.cell (j := 6) rfl
    have x47 := X4.out.cell (j := 7) rfl
    have x48 := X4.out.cell (j := 8) rfl
    have x49 := X4.out.cell (j := 9) rfl
    have x410 := X4.out.cell (j := 10) rfl
    have x411 := X4.out.cell (j := 11) rfl
    have F4 := hid (entsAt_of (l := d.ents) (r := []) (by rw [List.append_nil]; exact k4))
    have G4 := hid (intsAt_of (zs := d.conf) (r := []) (by rw [List.append_nil]; exact j4))
    clear b4 k4 j4 x30 x31 x32 x33 x34 x35 x36 x37 x38 x39 x310 x311 X3 hg4 hh4
    have hb5 := below_more (Below.refl w4.heap.size w4) (.cells #[.int .i64 d.kind, .int .i64 d.src, .int .i64 d.dst, .int .i64 d.term, .int .i64 d.index, .int .i64 d.logTerm, .int .i64 d.commit, .bool d.ok, .slice (some ⟨g4, 0, none⟩) d.ents.length d.ents.length, .slice (some ⟨h4, 0, none⟩) d.conf.length d.conf.length, .string d.data, .bool d.last] 31)
    have hx5 : BlockIs (w4.alloc (.cells #[.int .i64 d.kind, .int .i64 d.src, .int .i64 d.dst, .int .i64 d.term, .int .i64 d.index, .int .i64 d.logTerm, .int .i64 d.commit, .bool d.ok, .slice (some ⟨g4, 0, none⟩) d.ents.length d.ents.length, .slice (some ⟨h4, 0, none⟩) d.conf.length d.conf.length, .string d.data, .bool d.last] 31)) w4.heap.size 31 [.int .i64 d.kind, .int .i64 d.src, .int .i64 d.dst, .int .i64 d.term, .int .i64 d.index, .int .i64 d.logTerm, .int .i64 d.commit, .bool d.ok, .slice (some ⟨g4, 0, none⟩) d.ents.length d.ents.length, .slice (some ⟨h4, 0, none⟩) d.conf.length d.conf.length, .string d.data, .bool d.last] := heap_alloc_new w4 _
    have hX5 := X4.out.on hb5 X4.out.lt
    have hF5 := F4.out.on hb5
    have hG5 := G4.out.on hb5
    have H5 := hid (And.intro hb5 (And.intro hx5 (And.intro hX5 (And.intro hF5 hG5))))
    clear hb5 hx5 hX5 hF5 hG5 F4 G4
    go_wp2_with fail
    refine (cI.out _ _ _ _ _ H5.out.2.2.2.1 H5.out.2.2.2.2).mono ?_
    rintro e w6 ⟨rfl, b6⟩
    have B6 := hid (below_via B4.out (below_via H5.out.1 b6))
    have X6 := hid (H5.out.2.2.1.on b6 H5.out.2.2.1.lt)
    have x60 := X6.out.cell (j := 0) rfl
    have x61 := X6.out.cell (j := 1) rfl
    have x62 := X6.out.cell (j := 2) rfl
    have x63 := X6.out.cell (j := 3) rfl
    have x64 := X6.out.cell (j := 4) rfl
    have x65 := X6.out.cell (j := 5) rfl
    have x66 := X6.out.cell (j := 6) rfl
    have x67 := X6.out.cell (j := 7) rfl
    have x68 := X6.out.cell (j := 8) rfl
    have x69 := X6.out.cell (j := 9) rfl
    have x610 := X6.out.cell (j := 10) rfl
    have x611 := X6.out.cell (j := 11) rfl
    have Y6 := hid (H5.out.2.1.on b6 H5.out.2.1.lt)
    have y60 := Y6.out.cell (j := 0) rfl
    have y61 := Y6.out.cell (j := 1) rfl
    have y62 := Y6.out.cell (j := 2) rfl
    have y63 := Y6.out.cell (j := 3) rfl
    have y64 := Y6.out.cell (j := 4) rfl
    have y65 := Y6.out.cell (j := 5) rfl
    have y66 := Y6.out.cell (j := 6) rfl
    have y67 := Y6.out.cell (j := 7) rfl
    have y68 := Y6.out.cell (j := 8) rfl
    have y69 := Y6.out.cell (j := 9) rfl
    have y610 := Y6.out.cell (j := 10) rfl
    have y611 := Y6.out.cell (j := 11) rfl
    have F6 := hid (H5.out.2.2.2.1.on b6)
    have G6 := hid (H5.out.2.2.2.2.on b6)
    have hle : d.ents.length ≤ 140737488355328 := by omega
    have hle' : d.conf.length ≤ 140737488355328 := by omega
    have CT : Hid (Calls Tryd.prog 6 #[.agg #[.int .i64 d.kind, .int .i64 d.src, .int .i64 d.dst, .int .i64 d.term, .int .i64 d.index, .int .i64 d.logTerm, .int .i64 d.commit, .bool d.ok, .slice ao d.ents.length ac, .slice bo d.conf.length bc, .string d.data, .bool d.last]] w6.drew fun e w7 => ∃ g7 h7, e = .returned (.agg #[.int .i64 d.kind, .int .i64 d.src, .int .i64 d.dst, .int .i64 d.term, .int .i64 d.index, .int .i64 d.logTerm, .int .i64 d.commit, .bool d.ok, .slice (some ⟨g7, 0, none⟩) d.ents.length d.ents.length, .slice (some ⟨h7, 0, none⟩) d.conf.length d.conf.length, .string d.data, .bool d.last]) ∧ (w7.cell? ⟨w4.heap.size, 0, none⟩ = some (.int .i64 d.kind) ∧ w7.cell? ⟨w4.heap.size, 1, none⟩ = some (.int .i64 d.src) ∧ w7.cell? ⟨w4.heap.size, 2, none⟩ = some (.int .i64 d.dst) ∧ w7.cell? ⟨w4.heap.size, 3, none⟩ = some (.int .i64 d.term) ∧ w7.cell? ⟨w4.heap.size, 4, none⟩ = some (.int .i64 d.index) ∧ w7.cell? ⟨w4.heap.size, 5, none⟩ = some (.int .i64 d.logTerm) ∧ w7.cell? ⟨w4.heap.size, 6, none⟩ = some (.int .i64 d.commit) ∧ w7.cell? ⟨w4.heap.size, 7, none⟩ = some (.bool d.ok) ∧ w7.cell? ⟨w4.heap.size, 8, none⟩ = some (.slice (some ⟨g4, 0, none⟩) d.ents.length d.ents.length) ∧ w7.cell? ⟨w4.heap.size, 9, none⟩ = some (.slice (some ⟨h4, 0, none⟩) d.conf.length d.conf.length) ∧ w7.cell? ⟨w4.heap.size, 10, none⟩ = some (.string d.data) ∧ w7.cell? ⟨w4.heap.size, 11, none⟩ = some (.bool d.last)) ∧ Hid (Below w.heap.size w w7 ∧ (EntsAt w7 (some ⟨g4, 0, none⟩) d.ents ∧ EntsAt w7 (some ⟨g7, 0, none⟩) d.ents) ∧ IntsAt w7 (some ⟨h4, 0, none⟩) d.conf ∧ IntsAt w7 (some ⟨h7, 0, none⟩) d.conf)) := by
      have hd : Below w6.heap.size w6 w6.drew := below_drewN (Below.refl _ _) 1
      refine Calls.mono (toMessage_any d ao ac bo bc hl2 hl3 w6.drew (HA.out.on (below_via B6.out hd)) (HI.out.on (below_via B6.out hd))) ?_
      rintro e w7 ⟨g7, h7, _, _, rfl, k7, j7, b7⟩
      have h67 := below_via hd b7
      have k6 := Y6.out.on h67 Y6.out.lt
      exact ⟨g7, h7, rfl, ⟨k6.cell (j := 0) rfl, k6.cell (j := 1) rfl, k6.cell (j := 2) rfl, k6.cell (j := 3) rfl, k6.cell (j := 4) rfl, k6.cell (j := 5) rfl, k6.cell (j := 6) rfl, k6.cell (j := 7) rfl, k6.cell (j := 8) rfl, k6.cell (j := 9) rfl, k6.cell (j := 10) rfl, k6.cell (j := 11) rfl⟩, below_via B6.out h67, ⟨F6.out.on h67, entsAt_of (r := []) (by rw [List.append_nil]; exact k7)⟩, G6.out.on h67, intsAt_of (r := []) (by rw [List.append_nil]; exact j7)⟩
    clear b6 H5 X4 x40 x41 x42 x43 x44 x45 x46 x47 x48 x49 x410 x411 B3 B2 B1 B4
    go_wp2
    go_region_with (first | (go_at_call 6; refine Calls.mono CT.out ?_; rintro e w7 ⟨g7, h7, rfl, ⟨y70, y71, y72, y73, y74, y75, y76, y77, y78, y79, y710, y711⟩, H7⟩) | (go_at_call 8; refine (eqMessage_same d _ _ _ _ _ _ _ _ hle hle' _ H7.out.2.1.1 H7.out.2.1.2 H7.out.2.2.1 H7.out.2.2.2).mono ?_; rintro e w8 ⟨rfl, b8⟩))
    all_goals
      have B8 := hid (below_via H7.out.1 b8)
      clear b8 H7
      go_wp2
      go_ret
      exact ⟨rfl, B8.out⟩

theorem own : ownKnob Tryd.prog.godebug = none := by kernel_rfl
theorem laidOut : laidOutB Tryd.prog = true := by kernel_rfl
theorem rowed : varsRowed Tryd.prog Rows.fnExactEncodeSpec.vars = true := by kernel_rfl
set_option maxRecDepth 1000000 in
theorem contract (H : Type) (enc : TypeId × Value → H) (W : World) (base : Nat) (args : Array Value) (ds gs : List (DataW H)) (before : List MemPlace)
    (hval : ∀ (j : Nat) t v, Tryd.f3.params[j]? = some t → args[j]? = some v → Value.okWide Tryd.prog W .any base t v)
    (hW : DataW.Whole enc Tryd.prog Tryd.f3.params.toList Rows.fnExactEncodeSpec.vars false W args.toList ds gs before) (_hL : laidMetH Tryd.prog Rows.fnExactEncodeRow.laid W) :
    Calls Tryd.prog 3 args W fun e W' => ∃ v, e = .returned v ∧ Rows.fnExactEncodeSpec.post enc Tryd.prog Tryd.f3 false true false false W args v W' := by
  have hW' := hW
  obtain ⟨p, q, hA0, hV0, rfl, hfz, hnd⟩ := hW
  have hV : DataW.TrodVars enc Tryd.prog W (fun _ => true) Rows.fnExactEncodeSpec.vars gs q := hV0
  have hA : DataW.TrodAll enc Tryd.prog W 0 (fun _ => true) true Tryd.f3.params.toList args.toList ds p := hA0
  rw [Tryd.params3] at hA hval
  obtain ⟨v0, vs0, d0, ds0, p0, q0, hargs0, rfl, rfl, h0, r0⟩ := trodAll_cons hA
  obtain ⟨rfl, rfl, rfl⟩ := trodAll_nil r0
  obtain rfl : args = #[v0] := by cases args; simp_all
  have k0 := h0
  have lt0 : ∀ x ∈ p0, x.block < W.heap.size := by obtain ⟨m, hm⟩ := k0; exact DataW.trod_lt m _ _ _ hm
  obtain ⟨a0, ao0, ac0, bo0, bc0, rfl, hfd0, ⟨hc0, hm0, hat0, hfit0⟩, hd0, hn0, hbt0, hgit0⟩ := open_msg (hval 0 25 v0 rfl rfl) h0
  clear hA0 hV0
  obtain ⟨rfl, rfl⟩ := trodVars_none hV
  refine (walk a0 hfd0 ao0 ac0 (Nat.le_trans hc0 hm0) hfit0 bo0 bc0 (Nat.le_trans hd0 hn0) hgit0 W hat0 hbt0).mono fun e W' ⟨he, bel⟩ => ?_
  subst he
  exact ⟨_, rfl, _, _, _, [], _, [], hW', trodAll_mk1 (shut_bool Tryd.underlying4 _), trodAll_cons_mk (Below.trod laidOut (by kernel_rfl) (of_decide_eq_true (by kernel_rfl)) k0 bel lt0) (trodAll_mk0), rfl, bel.frame _, fun h => by cases h⟩

def put (cs : Array Value) : Obj → Obj
  | .cells _ t frozen => .cells cs t frozen
  | o => o

/-- a world for the witness: the tables hold what their initialisers lay -/
def laidWorld (w : World) : World := { w with heap := (w.heap.modify 0 (put #[.iface 114 (.pointer (some ⟨6, 0, none⟩))])) }
theorem laid_met (os : Os) : laidMet Tryd.prog Rows.fnExactEncodeRow.laid ((laidWorld (World.holding Tryd.prog os ⟨#[.cells #[.string { data := #[98, 121, 116, 101, 115, 46, 66, 117, 102, 102, 101, 114, 58, 32, 116, 111, 111, 32, 108, 97, 114, 103, 101] }] 131], #[], []⟩)).forCall (fun _ _ => 0) ⟨#[], #[.agg #[.int .i64 0, .int .i64 0, .int .i64 0, .int .i64 0, .int .i64 0, .int .i64 0, .int .i64 0, .bool false, .slice none 0 0, .slice none 0 0, .string ByteArray.empty, .bool false]], []⟩).memory :=
  laidMet_of_run' 8 (by kernel_rfl) (by kernel_rfl)
theorem reads (os : Os) {H : Type} (enc : TypeId × Value → H) : ∃ places, DataW.whole enc Tryd.prog ((laidWorld (World.holding Tryd.prog os ⟨#[.cells #[.string { data := #[98, 121, 116, 101, 115, 46, 66, 117, 102, 102, 101, 114, 58, 32, 116, 111, 111, 32, 108, 97, 114, 103, 101] }] 131], #[], []⟩)).forCall (fun _ _ => 0) ⟨#[], #[.agg #[.int .i64 0, .int .i64 0, .int .i64 0, .int .i64 0, .int .i64 0, .int .i64 0, .int .i64 0, .bool false, .slice none 0 0, .slice none 0 0, .string ByteArray.empty, .bool false]], []⟩).memory Tryd.f3.params.toList Rows.fnExactEncodeSpec.vars false #[Value.agg #[.int .i64 0, .int .i64 0, .int .i64 0, .int .i64 0, .int .i64 0, .int .i64 0, .int .i64 0, .bool false, .slice none 0 0, .slice none 0 0, .string ByteArray.empty, .bool false]].toList 8 = some ([.agg [.lit (.int .i64 0), .lit (.int .i64 0), .lit (.int .i64 0), .lit (.int .i64 0), .lit (.int .i64 0), .lit (.int .i64 0), .lit (.int .i64 0), .lit (.bool false), .nil, .nil, .lit (.string []), .lit (.bool false)]], [], places) :=
  ⟨[], by kernel_rfl⟩

set_option maxRecDepth 1000000 in
theorem lifted (os : Os) (started : os.Started) (H : Type) (enc : TypeId × Value → H) (F : Stop.Interp) :
    ReturnsInHanded {} Tryd.checked os 3 .any ((OpenSpec.ofChange Rows.fnExactEncodeSpec).preRow enc Tryd.prog Tryd.f3 Rows.fnExactEncodeRow.domain false Rows.fnExactEncodeRow.laid) (((OpenSpec.ofChange Rows.fnExactEncodeSpec).at F).post enc Tryd.prog Tryd.f3 false true false false) := by
  obtain ⟨places, hx⟩ := reads os enc
  refine returnsInHanded_of_row (C := Tryd.checked) (s := OpenSpec.ofChange Rows.fnExactEncodeSpec) own started (by kernel_rfl) Tryd.func3
    (witness_row_at (enc := enc) (C := Tryd.checked) false (laidWorld (World.holding Tryd.prog os ⟨#[.cells #[.string { data := #[98, 121, 116, 101, 115, 46, 66, 117, 102, 102, 101, 114, 58, 32, 116, 111, 111, 32, 108, 97, 114, 103, 101] }] 131], #[], []⟩)) #[.agg #[.int .i64 0, .int .i64 0, .int .i64 0, .int .i64 0, .int .i64 0, .int .i64 0, .int .i64 0, .bool false, .slice none 0 0, .slice none 0 0, .string ByteArray.empty, .bool false]] rfl (by kernel_rfl) (by kernel_rfl) (by kernel_rfl)
      (OpenSpec.preRow_of_cond 8 hx (by kernel_rfl) (fun k hk => by cases hk) (by kernel_rfl) (laid_met os))) ?_
  intro W base args ds gs before hval hW _ _ _ hL _ _
  exact contract H enc W base args ds gs before hval hW hL

theorem said : Rows.FnExactEncodeSaid :=
  OpenClaim.holds_of_cond 3 Tryd.f3 rfl rfl rfl rfl rfl rfl rfl ⟨rfl, rfl, rfl, rfl, rfl⟩ rfl rfl rfl rfl rfl (by kernel_rfl) Tryd.func3 (by kernel_rfl)
    (of_decide_eq_true (by kernel_rfl)) (by unfold Func.isWrapper; first | (rw [if_pos (by decide +kernel)]; kernel_rfl) | (rw [if_neg (by decide +kernel)]; exact ⟨rfl, rfl⟩))
    (fun os started H enc _ F => by rw [OpenClaim.pre_eq_preRow]; exact lifted os started H enc F)

theorem plain (f : FuncId) (fn : Func) (hf : Tryd.pinned.checked.prog.funcNamed "loop.example/g00232/laws.FnExactEncode" = some f) (hfn : Tryd.pinned.checked.prog.funcs[f]? = some fn) :
    true = Tryd.pinned.checked.prog.looks [] ∧ ∀ (j : Nat) t, fn.params[j]? = some t → Tryd.pinned.checked.prog.wantsStandIn t = false := by
  obtain rfl : f = 3 := Option.some.inj ((show Tryd.prog.funcNamed "loop.example/g00232/laws.FnExactEncode" = some 3 by kernel_rfl).symm.trans hf) |>.symm
  obtain rfl : fn = Tryd.f3 := (Option.some.inj (Tryd.func3.symm.trans hfn)).symm
  refine ⟨by kernel_rfl, fun j t ht => ?_⟩
  rw [Tryd.params3] at ht
  obtain rfl : t = 25 := by simpa using Array.mem_of_getElem? ht
  exact (show Tryd.prog.wantsStandIn 25 = false by kernel_rfl)

theorem card : Rows.FnExactEncodeCardSaid :=
  Claim7.holds_tied_plain_at .later [] _ _ _ _ said (fun _ h => by cases h) (by kernel_rfl) (fun _ h => by cases h) fnExactEncode_row_tie rfl ⟨rfl, rfl⟩ (by kernel_rfl) rfl plain (by kernel_rfl)
end Go.Proofs.YtkdbdgeaceigfaaDoor.fnExactEncode
