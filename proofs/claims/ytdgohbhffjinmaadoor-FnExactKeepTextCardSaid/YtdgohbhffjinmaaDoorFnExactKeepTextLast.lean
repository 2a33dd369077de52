/-
  For every keep, laws.FnExactKeepText returns true: impl and spec answer alike; nothing that was in memory is written.
-/
import Derived.Test.YtdgohbhffjinmaaDoorCards
import Derived.Test.YtdgohbhffjinmaaDoorTie
import Derived.Test.YtdgohbhffjinmaaDoorJoint1
import Derived.Test.YtdgohbhffjinmaaDoorJoint4
import Derived.Test.YtdgohbhffjinmaaDoorJoint7
import Derived.Test.YtdgohbhffjinmaaDoorJoint10
import Derived.Test.YtdgohbhffjinmaaDoorJoint18
import Derived.Test.YtdgohbhffjinmaaDoorJoint29
import Derived.Deep.RegionWith
import Derived.WalkSmall
import Derived.WalkKit
import Derived.ProofKit
import Derived.OpenShut
import Derived.OpenVars
import Derived.Deep.DeepHandedRow
import Derived.Lib.LaidTab
import Derived.Stop.LaidErr
namespace Go.Proofs.YtdgohbhffjinmaaDoor.fnExactKeepText
open Go.ChangeShapes Go.WideShapes Go.ChangeAt Go.ChangeMaps Go.RowKit

set_option maxRecDepth 1000000 in
set_option maxHeartbeats 1000000 in
theorem walk (ao : Option Addr) (ls : List SessionD) (ac : Nat) (hl : ls.length ≤ maxLen) (hf : SessionsFit ls) (bo : Option Addr) (li : List ItemD) (bc : Nat) (hl' : li.length ≤ maxLen) (hf' : ItemsFit li) (w : World) (ha : SessionsAt w ao ls) (hi : ItemsAt w bo li) :
    Calls Tryd.prog 4 #[.agg #[.slice ao ls.length ac, .slice bo li.length bc]] w fun e w' => e = .returned (.bool true) ∧ Below w.heap.size w w' := by
  have HA := hid ha
  have HI := hid hi
  have cSz := hid (fun w ha hi => szKeep_any ao bo ls li ac bc (by unfold maxLen at hl; omega) (by unfold maxLen at hl'; omega) hf hf' w ha hi)
  have HX := hid (show BlockIs (w.alloc (.cells #[.slice ao ls.length ac, .slice bo li.length bc] 33)) w.heap.size 33 [.slice ao ls.length ac, .slice bo li.length bc] from heap_alloc_new w _)
  have HB := hid (below_more (Below.refl w.heap.size w) (.cells #[.slice ao ls.length ac, .slice bo li.length bc] 33))
  clear ha hi
  go_enter Tryd.func4, Tryd.ntmps4
  go_wp2_with fail
  refine (cSz.out _ (HA.out.on HB.out) (HI.out.on HB.out)).mono ?_
  rintro e w1 ⟨(⟨hneg, rfl⟩ | ⟨hnn, rfl⟩), b1⟩
  · have B1 := hid (below_via HB.out b1)
    clear b1 cSz HB HX hneg hf hf'
    go_wp2
    go_ret
    exact ⟨rfl, B1.out⟩
  have B1 := hid (below_via HB.out b1)
  have X1 := hid (HX.out.on b1 HX.out.lt)
  have x10 := X1.out.cell (j := 0) rfl
  have x11 := X1.out.cell (j := 1) rfl
  have q1 := sessionBulk_nonneg ls
  have q2 := itemBulk_nonneg li
  have hl2 := (sessionsSmall (l := ls) (by unfold keepBulk at hnn; omega)).1
  have hl3 := (itemsSmall (l := li) (by unfold keepBulk at hnn; omega)).1
  have HSM := hid (And.intro (sessionsSmall (l := ls) (by unfold keepBulk at hnn; omega)).2 (itemsSmall (l := li) (by unfold keepBulk at hnn; omega)).2)
  have hnn' : ¬ (1048576 : Int) - keepBulk ls li < 0 := by omega
  clear b1 cSz HB HX hf hf' q1 q2 hnn
  have cS' := fun ao bo ac bc w ha hi => specKeepText_any ao bo ls li ac bc hl2 hl3 w ha hi
  have cI' := fun ao bo ac bc w ha hi => implKeepText_any ao bo ls li ac bc hl2 hl3 w ha hi
  obtain ⟨T, ok, hka⟩ : ∃ T ok, keepAns ls li = .tuple #[.string T, .bool ok] := by unfold keepAns; split <;> exact ⟨_, _, rfl⟩
  rw [hka] at cS' cI'
  have cS := hid cS'
  have cI := hid cI'
  clear cS' cI' hka
  go_wp2_with fail
  refine (toKeep_any ao bo ls li ac bc hl2 hl3 _ (HA.out.on B1.out) (HI.out.on B1.out)).mono ?_
  rintro e w2 ⟨g2, h2, hg2, hh2, rfl, k2, j2, b2⟩
  have B2 := hid (below_via B1.out b2)
  have X2 := hid (X1.out.on b2 X1.out.lt)
  have x20 := X2.out.cell (j := 0) rfl
  have x21 := X2.out.cell (j := 1) rfl
  have F2 := hid (sessionsAt_of (l := ls) (r := []) (by rw [List.append_nil]; exact k2))
  have G2 := hid (itemsAt_of (l := li) (r := []) (by rw [List.append_nil]; exact j2))
  clear b2 k2 j2 x10 x11 X1 hg2 hh2
  go_wp2_with fail
  refine (cS.out _ _ _ _ _ F2.out G2.out).mono ?_
  rintro e w3 ⟨rfl, b3⟩
  have B3 := hid (below_via B2.out b3)
  have X3 := hid (X2.out.on b3 X2.out.lt)
  have x30 := X3.out.cell (j := 0) rfl
  have x31 := X3.out.cell (j := 1) rfl
  clear b3 x20 x21 X2 F2 G2
  go_wp2_with fail
  refine (toKeep_any ao bo ls li ac bc hl2 hl3 _ (HA.out.on B3.out) (HI.out.on B3.out)).mono ?_
  rintro e w4 ⟨g4, h4, hg4, hh4, rfl, k4, j4, b4⟩
  have B4 := hid (below_via B3.out b4)
  have X4 := hid (X3.out.on b4 X3.out.lt)
  have x40 := X4.out.cell (j := 0) rfl
  have x41 := X4.out.cell (j := 1) rfl
  have F4 := hid (sessionsAt_of (l := ls) (r := []) (by rw [List.append_nil]; exact k4))
  have G4 := hid (itemsAt_of (l := li) (r := []) (by rw [List.append_nil]; exact j4))
  clear b4 k4 j4 x30 x31 X3 hg4 hh4
  have hb5 := below_more (Below.refl w4.heap.size w4) (.cells #[.slice (some ⟨g4, 0, none⟩) ls.length ls.length, .slice (some ⟨h4, 0, none⟩) li.length li.length] 39)
  have hx5 : BlockIs (w4.alloc (.cells #[.slice (some ⟨g4, 0, none⟩) ls.length ls.length, .slice (some ⟨h4, 0, none⟩) li.length li.length] 39)) w4.heap.size 39 [.slice (some ⟨g4, 0, none⟩) ls.length ls.length, .slice (some ⟨h4, 0, none⟩) li.length li.length] := heap_alloc_new w4 _
  have H5 := hid (And.intro hb5 (And.intro hx5 (And.intro (X4.out.on hb5 X4.out.lt) (And.intro (F4.out.on hb5) (G4.out.on hb5)))))
  clear hb5 hx5 F4 G4
  go_wp2_with fail
  refine (cI.out _ _ _ _ _ H5.out.2.2.2.1 H5.out.2.2.2.2).mono ?_
  rintro e w6 ⟨rfl, b6⟩
  have B6 := hid (below_via B4.out (below_via H5.out.1 b6))
  have X6 := hid (H5.out.2.2.1.on b6 H5.out.2.2.1.lt)
  have Y6 := hid (H5.out.2.1.on b6 H5.out.2.1.lt)
  have F6 := hid (H5.out.2.2.2.1.on b6)
  have G6 := hid (H5.out.2.2.2.2.on b6)
  have hle : ls.length ≤ 140737488355328 := by omega
  have hle' : li.length ≤ 140737488355328 := by omega
  clear b6 H5 X4 x40 x41 B3 B2 B1 B4
  have x0 := X6.out.cell (j := 0) rfl
  have x1 := X6.out.cell (j := 1) rfl
  have y0 := Y6.out.cell (j := 0) rfl
  have y1 := Y6.out.cell (j := 1) rfl
  have CT : Hid (Calls Tryd.prog 11 #[.agg #[.slice ao ls.length ac, .slice bo li.length bc]] w6.drew fun e w7 => ∃ g7 h7, e = .returned (.agg #[.slice (some ⟨g7, 0, none⟩) ls.length ls.length, .slice (some ⟨h7, 0, none⟩) li.length li.length]) ∧ (w7.cell? ⟨w4.heap.size, 0, none⟩ = some (.slice (some ⟨g4, 0, none⟩) ls.length ls.length) ∧ w7.cell? ⟨w4.heap.size, 1, none⟩ = some (.slice (some ⟨h4, 0, none⟩) li.length li.length)) ∧ Hid (Below w.heap.size w w7 ∧ (SessionsAt w7 (some ⟨g4, 0, none⟩) ls ∧ SessionsAt w7 (some ⟨g7, 0, none⟩) ls) ∧ ItemsAt w7 (some ⟨h4, 0, none⟩) li ∧ ItemsAt w7 (some ⟨h7, 0, none⟩) li)) := by
    have hd : Below w6.heap.size w6 w6.drew := below_drewN (Below.refl _ _) 1
    refine Calls.mono (toKeep_any ao bo ls li ac bc hl2 hl3 _ (HA.out.on (below_via B6.out hd)) (HI.out.on (below_via B6.out hd))) ?_
    rintro e w7 ⟨g7, h7, _, _, rfl, k7, j7, b7⟩
    have h67 := below_via hd b7
    have k6 := Y6.out.on h67 Y6.out.lt
    exact ⟨g7, h7, rfl, ⟨k6.cell (j := 0) rfl, k6.cell (j := 1) rfl⟩, below_via B6.out h67, ⟨F6.out.on h67, sessionsAt_of (r := []) (by rw [List.append_nil]; exact k7)⟩, G6.out.on h67, itemsAt_of (r := []) (by rw [List.append_nil]; exact j7)⟩
  go_wp2
  go_region_with (first | (go_at_call 11; refine Calls.mono CT.out ?_; rintro e w7 ⟨g7, h7, rfl, ⟨y70, y71⟩, H7⟩) | (go_at_call 13; refine (eqKeep_same _ _ _ _ ls li _ _ _ _ hle hle' _ H7.out.2.1.1 H7.out.2.1.2 H7.out.2.2.1 H7.out.2.2.2).mono ?_; rintro e w8 ⟨rfl, b8⟩))
  all_goals
    have B9 := hid (below_via H7.out.1 b8)
    clear b8 H7
    go_wp2
    go_ret
    exact ⟨rfl, B9.out⟩

theorem own : ownKnob Tryd.prog.godebug = none := by kernel_rfl
theorem laidOut : laidOutB Tryd.prog = true := by kernel_rfl
theorem rowed : varsRowed Tryd.prog Rows.fnExactKeepTextSpec.vars = true := by kernel_rfl
set_option maxRecDepth 1000000 in
theorem contract (H : Type) (enc : TypeId × Value → H) (W : World) (base : Nat) (args : Array Value) (ds gs : List (DataW H)) (before : List MemPlace)
    (hval : ∀ (j : Nat) t v, Tryd.f4.params[j]? = some t → args[j]? = some v → Value.okWide Tryd.prog W .any base t v)
    (hW : DataW.Whole enc Tryd.prog Tryd.f4.params.toList Rows.fnExactKeepTextSpec.vars false W args.toList ds gs before) (_hL : laidMetH Tryd.prog Rows.fnExactKeepTextRow.laid W) :
    Calls Tryd.prog 4 args W fun e W' => ∃ v, e = .returned v ∧ Rows.fnExactKeepTextSpec.post enc Tryd.prog Tryd.f4 false true false false W args v W' := by
  have hW' := hW
  obtain ⟨p, q, hA0, hV0, rfl, hfz, hnd⟩ := hW
  have hV : DataW.TrodVars enc Tryd.prog W (fun _ => true) Rows.fnExactKeepTextSpec.vars gs q := hV0
  have hA : DataW.TrodAll enc Tryd.prog W 0 (fun _ => true) true Tryd.f4.params.toList args.toList ds p := hA0
  rw [Tryd.params4] at hA hval
  obtain ⟨v0, vs0, d0, ds0, p0, q0, hargs0, rfl, rfl, h0, r0⟩ := trodAll_cons hA
  obtain ⟨rfl, rfl, rfl⟩ := trodAll_nil r0
  obtain rfl : args = #[v0] := by cases args; simp_all
  have k0 := h0
  have lt0 : ∀ x ∈ p0, x.block < W.heap.size := by obtain ⟨m, hm⟩ := k0; exact DataW.trod_lt m _ _ _ hm
  obtain ⟨a0, l0, ac0, b0, m0, bc0, rfl, ⟨hc0, hm0, hat0, hfit0⟩, hd0, hn0, hbt0, hgit0⟩ := open_keep (hval 0 33 v0 rfl rfl) h0
  clear hA0 hV0
  obtain ⟨rfl, rfl⟩ := trodVars_none hV
  refine (walk a0 l0 ac0 (Nat.le_trans hc0 hm0) hfit0 b0 m0 bc0 (Nat.le_trans hd0 hn0) hgit0 W hat0 hbt0).mono fun e W' ⟨he, bel⟩ => ?_
  subst he
  exact ⟨_, rfl, _, _, _, [], _, [], hW', trodAll_mk1 (shut_bool Tryd.underlying4 _), trodAll_cons_mk (Below.trod laidOut (by kernel_rfl) (of_decide_eq_true (by kernel_rfl)) k0 bel lt0) (trodAll_mk0), rfl, bel.frame _, fun h => by cases h⟩

def put (cs : Array Value) : Obj → Obj
  | .cells _ t frozen => .cells cs t frozen
  | o => o

/-- a world for the witness: the tables hold what their initialisers lay -/
def laidWorld (w : World) : World := { w with heap := (w.heap.modify 0 (put #[.iface 98 (.pointer (some ⟨6, 0, none⟩))])) }
theorem laid_met (os : Os) : laidMet Tryd.prog Rows.fnExactKeepTextRow.laid ((laidWorld (World.holding Tryd.prog os ⟨#[.cells #[.string { data := #[98, 121, 116, 101, 115, 46, 66, 117, 102, 102, 101, 114, 58, 32, 116, 111, 111, 32, 108, 97, 114, 103, 101] }] 114], #[], []⟩)).forCall (fun _ _ => 0) ⟨#[], #[.agg #[.slice none 0 0, .slice none 0 0]], []⟩).memory :=
  laidMet_of_run' 8 (by kernel_rfl) (by kernel_rfl)
theorem reads (os : Os) {H : Type} (enc : TypeId × Value → H) : ∃ places, DataW.whole enc Tryd.prog ((laidWorld (World.holding Tryd.prog os ⟨#[.cells #[.string { data := #[98, 121, 116, 101, 115, 46, 66, 117, 102, 102, 101, 114, 58, 32, 116, 111, 111, 32, 108, 97, 114, 103, 101] }] 114], #[], []⟩)).forCall (fun _ _ => 0) ⟨#[], #[.agg #[.slice none 0 0, .slice none 0 0]], []⟩).memory Tryd.f4.params.toList Rows.fnExactKeepTextSpec.vars false #[Value.agg #[.slice none 0 0, .slice none 0 0]].toList 8 = some ([.agg [.nil, .nil]], [], places) :=
  ⟨[], by kernel_rfl⟩

set_option maxRecDepth 1000000 in
theorem lifted (os : Os) (started : os.Started) (H : Type) (enc : TypeId × Value → H) (F : Stop.Interp) :
    ReturnsInHanded {} Tryd.checked os 4 .any ((OpenSpec.ofChange Rows.fnExactKeepTextSpec).preRow enc Tryd.prog Tryd.f4 Rows.fnExactKeepTextRow.domain false Rows.fnExactKeepTextRow.laid) (((OpenSpec.ofChange Rows.fnExactKeepTextSpec).at F).post enc Tryd.prog Tryd.f4 false true false false) := by
  obtain ⟨places, hx⟩ := reads os enc
  refine returnsInHanded_of_row (C := Tryd.checked) (s := OpenSpec.ofChange Rows.fnExactKeepTextSpec) own started (by kernel_rfl) Tryd.func4
    (witness_row_at (enc := enc) (C := Tryd.checked) false (laidWorld (World.holding Tryd.prog os ⟨#[.cells #[.string { data := #[98, 121, 116, 101, 115, 46, 66, 117, 102, 102, 101, 114, 58, 32, 116, 111, 111, 32, 108, 97, 114, 103, 101] }] 114], #[], []⟩)) #[.agg #[.slice none 0 0, .slice none 0 0]] rfl (by kernel_rfl) (by kernel_rfl) (by kernel_rfl)
      (OpenSpec.preRow_of_cond 8 hx (by kernel_rfl) (fun k hk => by cases hk) (by kernel_rfl) (laid_met os))) ?_
  intro W base args ds gs before hval hW _ _ _ hL _ _
  exact contract H enc W base args ds gs before hval hW hL

theorem said : Rows.FnExactKeepTextSaid :=
  OpenClaim.holds_of_cond 4 Tryd.f4 rfl rfl rfl rfl rfl rfl rfl ⟨rfl, rfl, rfl, rfl, rfl⟩ rfl rfl rfl rfl rfl (by kernel_rfl) Tryd.func4 (by kernel_rfl)
    (of_decide_eq_true (by kernel_rfl)) (by unfold Func.isWrapper; first | (rw [if_pos (by decide +kernel)]; kernel_rfl) | (rw [if_neg (by decide +kernel)]; exact ⟨rfl, rfl⟩))
    (fun os started H enc _ F => by rw [OpenClaim.pre_eq_preRow]; exact lifted os started H enc F)

theorem plain (f : FuncId) (fn : Func) (hf : Tryd.pinned.checked.prog.funcNamed "loop.example/g00232/laws.FnExactKeepText" = some f) (hfn : Tryd.pinned.checked.prog.funcs[f]? = some fn) :
    false = Tryd.pinned.checked.prog.looks [] ∧ ∀ (j : Nat) t, fn.params[j]? = some t → Tryd.pinned.checked.prog.wantsStandIn t = false := by
  obtain rfl : f = 4 := Option.some.inj ((show Tryd.prog.funcNamed "loop.example/g00232/laws.FnExactKeepText" = some 4 by kernel_rfl).symm.trans hf) |>.symm
  obtain rfl : fn = Tryd.f4 := (Option.some.inj (Tryd.func4.symm.trans hfn)).symm
  refine ⟨by kernel_rfl, fun j t ht => ?_⟩
  rw [Tryd.params4] at ht
  obtain rfl : t = 33 := by simpa using Array.mem_of_getElem? ht
  exact (show Tryd.prog.wantsStandIn 33 = false by kernel_rfl)

theorem card : Rows.FnExactKeepTextCardSaid :=
  Claim7.holds_tied_plain_at .later [] _ _ _ _ said (fun _ h => by cases h) (by kernel_rfl) (fun _ h => by cases h) fnExactKeepText_row_tie rfl ⟨rfl, rfl⟩ (by kernel_rfl) rfl plain (by kernel_rfl)
end Go.Proofs.YtdgohbhffjinmaaDoor.fnExactKeepText
