/-
  For every text, laws.FnExactReadSnap returns true: impl.ReadSnap and spec.ReadSnap answer alike, and the answer owns its memory; nothing that was in memory is written. The table that impl reads is tied to the program's text (the card).
-/
import Derived.Test.YtggogiepebnckaaDoorCards
import Derived.Test.YtggogiepebnckaaDoorTie
import Derived.Test.YtggogiepebnckaaDoorJoint17
import Derived.Test.YtggogiepebnckaaDoorJoint33
import Derived.Test.YtggogiepebnckaaDoorJoint36
import Derived.Test.YtggogiepebnckaaDoorJoint40
import Derived.WalkSmall
import Derived.WalkKit
import Derived.ProofKit
import Derived.OpenShut
import Derived.OpenVars
import Derived.Deep.DeepHandedRow
import Derived.Lib.LaidTab
import Derived.Stop.LaidErr
namespace Go.Proofs.YtggogiepebnckaaDoor.fnExactReadSnap
open Go.ChangeShapes Go.WideShapes Go.ChangeAt Go.ChangeMaps Go.RowKit

set_option maxRecDepth 1000000 in
set_option maxHeartbeats 4000000 in
theorem walk (s : ByteArray) (_hs : s.size ≤ maxLen) (w : World) (ht : Steps w) :
    Calls Tryd.prog 3 #[.string s] w fun e w' => e = .returned (.bool true) ∧ Below w.heap.size w w' := by
  have HT := hid ht
  clear ht
  by_cases hbig : (1048576 : Int) < (s.size : Int)
  · go_enter Tryd.func3, Tryd.ntmps3
    go_wp2
    go_ret
    exact ⟨rfl, Below.refl _ _⟩
  have hl : s.size ≤ 1048576 := by omega
  have cS' := fun w => (specReadSnap_any s hl w).mono (fun e w' h => snapDid_parts h)
  have cI' := fun w ht => (implReadSnap_any s hl w ht).mono (fun e w' h => snapDid_parts h)
  have hz4 := readSnap_small (s := s)
  obtain ⟨ix, hix⟩ : ∃ x, snapIx (readSnap s) = x := ⟨_, rfl⟩
  obtain ⟨tm, htm⟩ : ∃ x, snapTm (readSnap s) = x := ⟨_, rfl⟩
  obtain ⟨zs, hzs⟩ : ∃ x, snapZs (readSnap s) = x := ⟨_, rfl⟩
  obtain ⟨bd, hbd⟩ : ∃ x, snapBd (readSnap s) = x := ⟨_, rfl⟩
  obtain ⟨ok, hok⟩ : ∃ x, (readSnap s).isSome = x := ⟨_, rfl⟩
  simp only [hix, htm, hzs, hbd, hok] at cS' cI' hz4
  have cS := hid cS'
  have cI := hid cI'
  clear cS' cI' hix htm hzs hbd hok
  go_enter Tryd.func3, Tryd.ntmps3
  go_wp2_with fail
  refine Calls.mono (cS.out w) ?_
  rintro e w1 ⟨a1, c1, rfl, o1, b1⟩
  have hx1 : BlockIs (w1.alloc (.cells #[.int .i64 ix, .int .i64 tm, .slice a1 zs.length c1, .string bd] 24)) w1.heap.size 24 [.int .i64 ix, .int .i64 tm, .slice a1 zs.length c1, .string bd] := heap_alloc_new w1 _
  have bx1 := below_more (Below.refl w1.heap.size w1) (.cells #[.int .i64 ix, .int .i64 tm, .slice a1 zs.length c1, .string bd] 24)
  have X1 := hid hx1
  have Z1 := hid ((ints_row rfl o1).on bx1)
  have B1 := hid (below_via b1 bx1)
  clear o1 b1 hx1 bx1
  go_wp2_with fail
  refine Calls.mono (cI.out _ (steps_on HT.out B1.out)) ?_
  rintro e w2 ⟨a2, c2, rfl, o2, b2⟩
  have hx2 : BlockIs (w2.alloc (.cells #[.int .i64 ix, .int .i64 tm, .slice a2 zs.length c2, .string bd] 24)) w2.heap.size 24 [.int .i64 ix, .int .i64 tm, .slice a2 zs.length c2, .string bd] := heap_alloc_new w2 _
  have bx2 := below_more (Below.refl w2.heap.size w2) (.cells #[.int .i64 ix, .int .i64 tm, .slice a2 zs.length c2, .string bd] 24)
  have b12 := below_via b2 bx2
  have X2 := hid (X1.out.on b12 X1.out.lt)
  have Y2 := hid hx2
  have R2 := hid (kept_conf o2 bx2)
  have Z2 := hid (Z1.out.on b12)
  have L2 := hid (ints_below Z1.out)
  have B2 := hid (below_via B1.out b12)
  have S2 := hid b12.size
  have SB := hid B1.out.size
  obtain ⟨nb, hnb⟩ : ∃ n, (w1.alloc (.cells #[.int .i64 ix, .int .i64 tm, .slice a1 zs.length c1, .string bd] 24)).heap.size = n := ⟨_, rfl⟩
  have hx1b : w1.heap.size < nb := by rw [← hnb]; exact X1.out.lt
  rw [hnb] at R2 L2 S2 SB
  clear o2 b2 B1 Z1 hx2 bx2 b12 X1 hnb
  have x20 := X2.out.cell (j := 0) rfl
  have x21 := X2.out.cell (j := 1) rfl
  have x22 := X2.out.cell (j := 2) rfl
  have x23 := X2.out.cell (j := 3) rfl

  go_wp2_with fail

  refine Calls.mono (eqSnap_same ix tm a2 a1 zs c2 c1 bd (by omega) _ (ints_row rfl R2.out) Z2.out) ?_
  rintro e w3 ⟨rfl, b3⟩
  have X3 := hid (X2.out.on b3 X2.out.lt)
  have Y3 := hid (Y2.out.on b3 Y2.out.lt)
  have R3 := hid (kept_conf R2.out b3)
  have Z3 := hid (Z2.out.on b3)
  have B3 := hid (below_via B2.out b3)
  have S3 := hid (Nat.le_trans S2.out b3.size)
  clear b3 R2 Z2 B2 S2 X2 Y2 x20 x21 x22 x23
  have y0 := Y3.out.cell (j := 0) rfl
  have y1 := Y3.out.cell (j := 1) rfl
  have y2 := Y3.out.cell (j := 2) rfl
  have y3 := Y3.out.cell (j := 3) rfl
  go_wp2_with fail
  refine (markSnap_row ix tm a2 c2 bd zs nb 1 (by omega) (by omega) w3 S3.out R3.out).mono ?_
  rintro e w4 ⟨rfl, M4, g, hg, hne, gr⟩
  have MM := hid M4
  have Z4 := hid (Z3.out.far L2.out gr hg)
  have X4 := hid (blk_grown X3.out gr (hne _ _ _ (by decide) X3.out))
  have Y4 := hid (blk_grown Y3.out gr (hne _ _ _ (by decide) Y3.out))
  have B4 := hid (B3.out.grown gr (Nat.le_trans SB.out S3.out) (fun k h => by simp only [Option.some.injEq] at h; have := SB.out; omega))
  clear M4 R3 Z3 B3 gr L2 X3 Y3 hne hg y0 y1 y2 y3
  obtain ⟨N, hN⟩ : ∃ N, 1 + zs.length = N := ⟨_, rfl⟩
  have hN5 : N ≤ 5 := by omega
  have cH' := fun w h => heldSnap_any ix tm a2 zs.length c2 1 bd (by omega) (by omega) w h
  rw [hN] at cH' ⊢
  have cH := hid cH'
  clear cH' hN
  have y0 := Y4.out.cell (j := 0) rfl
  have y1 := Y4.out.cell (j := 1) rfl
  have y2 := Y4.out.cell (j := 2) rfl
  have y3 := Y4.out.cell (j := 3) rfl
  go_wp2_with fail
  refine Calls.mono (cH.out w4 MM.out) ?_
  rintro e w5 ⟨rfl, b5⟩
  have M5 := hid (MM.out.on b5)
  have Z5 := hid (Z4.out.on b5)
  have X5 := hid (X4.out.on b5 X4.out.lt)
  have Y5 := hid (Y4.out.on b5 Y4.out.lt)
  have B5 := hid (below_via B4.out b5)
  clear b5 MM Z4 X4 Y4 B4 y0 y1 y2 y3
  go_wp2_with fail
  refine Calls.mono (cI.out w5 (steps_on HT.out B5.out)) ?_
  rintro e w6 ⟨a6, c6, rfl, o6, b6⟩
  have bx6 := below_more (Below.refl w6.heap.size w6) (.cells #[.int .i64 ix, .int .i64 tm, .slice a6 zs.length c6, .string bd] 24)
  have b56 := below_via b6 bx6
  have R6 := hid (kept_conf o6 bx6)
  have Z6 := hid (Z5.out.on b56)
  have M6 := hid (M5.out.on b56)
  have X6 := hid (X5.out.on b56 X5.out.lt)
  have Y6 := hid (Y5.out.on b56 Y5.out.lt)
  have B6 := hid (below_via B5.out b56)
  clear o6 b6 bx6 b56 Z5 M5 X5 Y5 B5
  have x20 := X6.out.cell (j := 0) rfl
  have x21 := X6.out.cell (j := 1) rfl
  have x22 := X6.out.cell (j := 2) rfl
  have x23 := X6.out.cell (j := 3) rfl
  go_wp2_with fail
  refine Calls.mono (eqSnap_same ix tm a6 a1 zs c6 c1 bd (by omega) _ (ints_row rfl R6.out) Z6.out) ?_
  rintro e w7 ⟨rfl, b7⟩
  have M7 := hid (M6.out.on b7)
  have Y7 := hid (Y6.out.on b7 Y6.out.lt)
  have B7 := hid (below_via B6.out b7)
  clear b7 Z6 M6 B6 R6 X6 Y6 x20 x21 x22 x23
  have y0 := Y7.out.cell (j := 0) rfl
  have y1 := Y7.out.cell (j := 1) rfl
  have y2 := Y7.out.cell (j := 2) rfl
  have y3 := Y7.out.cell (j := 3) rfl
  go_wp2_with fail
  refine Calls.mono (cH.out w7 M7.out) ?_
  rintro e w8 ⟨rfl, b8⟩
  have B8 := hid (below_via B7.out b8)
  clear b8 B7 M7 Y7 y0 y1 y2 y3
  go_wp2
  go_ret
  exact ⟨rfl, B8.out⟩

theorem own : ownKnob Tryd.prog.godebug = none := by kernel_rfl
theorem laidOut : laidOutB Tryd.prog = true := by kernel_rfl
theorem rowed : varsRowed Tryd.prog Rows.fnExactReadSnapSpec.vars = true := by kernel_rfl
/-- what the row's list gives: what loop.example/g00232/impl.fourSteps holds -/
theorem table0 {W : World} (h : laidMetH Tryd.prog Rows.fnExactReadSnapRow.laid W) : Lib.TabIs Tryd.prog W "loop.example/g00232/impl.fourSteps" .u32 stepsTab := by
  have h1 : laidMet Tryd.prog Rows.fnExactReadSnapRow.laid W := h
  unfold Rows.fnExactReadSnapRow at h1
  have h2 := h1
  rw [show (Rows.laid_loop_example_g00232_impl_fourSteps : DataW Unit) = Lib.tabData .u32 stepsTab by kernel_rfl] at h2
  exact Lib.tabIs_of_head (show Tryd.prog.globalNamed "loop.example/g00232/impl.fourSteps" = some 0 by kernel_rfl) (show (Tryd.prog.globals[0]?).map (·.type) = some 130 by kernel_rfl) Tryd.underlying130 Tryd.underlying123 (show Tryd.prog.cellsOf 123 = 1 by kernel_rfl) (show Tryd.prog.cellsOf 130 = 16 by kernel_rfl) h2
set_option maxRecDepth 1000000 in
theorem contract (H : Type) (enc : TypeId × Value → H) (W : World) (base : Nat) (args : Array Value) (ds gs : List (DataW H)) (before : List MemPlace)
    (hval : ∀ (j : Nat) t v, Tryd.f3.params[j]? = some t → args[j]? = some v → Value.okWide Tryd.prog W .any base t v)
    (hW : DataW.Whole enc Tryd.prog Tryd.f3.params.toList Rows.fnExactReadSnapSpec.vars false W args.toList ds gs before) (hL : laidMetH Tryd.prog Rows.fnExactReadSnapRow.laid W) :
    Calls Tryd.prog 3 args W fun e W' => ∃ v, e = .returned v ∧ Rows.fnExactReadSnapSpec.post enc Tryd.prog Tryd.f3 false true false false W args v W' := by
  have hW' := hW
  obtain ⟨p, q, hA0, hV0, rfl, hfz, hnd⟩ := hW
  have hV : DataW.TrodVars enc Tryd.prog W (fun _ => true) Rows.fnExactReadSnapSpec.vars gs q := hV0
  have hA : DataW.TrodAll enc Tryd.prog W 0 (fun _ => true) true Tryd.f3.params.toList args.toList ds p := hA0
  rw [Tryd.params3] at hA hval
  obtain ⟨v0, vs0, d0, ds0, p0, q0, hargs0, rfl, rfl, h0, r0⟩ := trodAll_cons hA
  obtain ⟨rfl, rfl, rfl⟩ := trodAll_nil r0
  obtain rfl : args = #[v0] := by cases args; simp_all
  obtain ⟨a0, rfl, rfl, rfl, w0⟩ := open_string Tryd.underlying9 (hval 0 9 v0 rfl rfl) h0
  clear hA0 hV0
  have hgs : gs.length = 1 := by
    have := hV
    clear hV hW' hL
    match gs, this with
    | [_], _ => rfl
  match gs, hgs, hV, hW' with
  | [g0], _, hV, hW' =>
    refine (walk a0 w0 W (table0 hL)).mono fun e W' ⟨he, bel⟩ => ?_
    subst he
    exact ⟨_, rfl, _, _, _, [], _, _, hW', trodAll_mk1 (shut_bool Tryd.underlying4 _), trodAll_cons_mk (shut_string Tryd.underlying9 w0) (trodAll_mk0), Below.trodVars laidOut bel rowed hV, bel.frame _, fun h => by cases h⟩

def put (cs : Array Value) : Obj → Obj
  | .cells _ t frozen => .cells cs t frozen
  | o => o

/-- a world for the witness: the tables hold what their initialisers lay -/
def laidWorld (w : World) : World := { w with heap := (w.heap.modify 0 (put (([0, 1166650509, 2333301018, 3466261911, 3189058079, 4221339282, 889615109, 1888477064, 3558460437, 2442158232, 1594529039, 444807554, 1779230218, 797264519, 3776954128, 2761298845] : List Int).map (Value.int .u32)).toArray)) }
theorem laid_met (os : Os) : laidMet Tryd.prog Rows.fnExactReadSnapRow.laid ((laidWorld (World.holding Tryd.prog os ⟨#[], #[], []⟩)).forCall (fun _ _ => 0) ⟨#[], #[.string ByteArray.empty], []⟩).memory :=
  laidMet_of_run' 8 (by kernel_rfl) (by kernel_rfl)
theorem reads (os : Os) {H : Type} (enc : TypeId × Value → H) : ∃ places, DataW.whole enc Tryd.prog ((laidWorld (World.holding Tryd.prog os ⟨#[], #[], []⟩)).forCall (fun _ _ => 0) ⟨#[], #[.string ByteArray.empty], []⟩).memory Tryd.f3.params.toList Rows.fnExactReadSnapSpec.vars false #[Value.string ByteArray.empty].toList 8 = some ([.lit (.string [])], [Rows.laid_loop_example_g00232_impl_fourSteps], places) :=
  ⟨(List.range 16).map (MemPlace.cell 0), by kernel_rfl⟩

set_option maxRecDepth 1000000 in
theorem lifted (os : Os) (started : os.Started) (H : Type) (enc : TypeId × Value → H) (F : Stop.Interp) :
    ReturnsInHanded {} Tryd.checked os 3 .any ((OpenSpec.ofChange Rows.fnExactReadSnapSpec).preRow enc Tryd.prog Tryd.f3 Rows.fnExactReadSnapRow.domain false Rows.fnExactReadSnapRow.laid) (((OpenSpec.ofChange Rows.fnExactReadSnapSpec).at F).post enc Tryd.prog Tryd.f3 false true false false) := by
  obtain ⟨places, hx⟩ := reads os enc
  refine returnsInHanded_of_row (C := Tryd.checked) (s := OpenSpec.ofChange Rows.fnExactReadSnapSpec) own started (by kernel_rfl) Tryd.func3
    (witness_row_at (enc := enc) (C := Tryd.checked) false (laidWorld (World.holding Tryd.prog os ⟨#[], #[], []⟩)) #[.string ByteArray.empty] rfl (by kernel_rfl) (by kernel_rfl) (by kernel_rfl)
      (OpenSpec.preRow_of_cond 8 hx (by kernel_rfl) (fun k hk => by cases hk) (by kernel_rfl) (laid_met os))) ?_
  intro W base args ds gs before hval hW _ _ _ hL _ _
  exact contract H enc W base args ds gs before hval hW hL

theorem said : Rows.FnExactReadSnapSaid :=
  OpenClaim.holds_of_cond 3 Tryd.f3 rfl rfl rfl rfl rfl rfl rfl ⟨rfl, rfl, rfl, rfl, rfl⟩ rfl rfl rfl rfl rfl (by kernel_rfl) Tryd.func3 (by kernel_rfl)
    (of_decide_eq_true (by kernel_rfl)) (by unfold Func.isWrapper; first | (rw [if_pos (by decide +kernel)]; kernel_rfl) | (rw [if_neg (by decide +kernel)]; exact ⟨rfl, rfl⟩))
    (fun os started H enc _ F => by rw [OpenClaim.pre_eq_preRow]; exact lifted os started H enc F)

theorem plain (f : FuncId) (fn : Func) (hf : Tryd.pinned.checked.prog.funcNamed "loop.example/g00232/laws.FnExactReadSnap" = some f) (hfn : Tryd.pinned.checked.prog.funcs[f]? = some fn) :
    true = Tryd.pinned.checked.prog.looks [] ∧ ∀ (j : Nat) t, fn.params[j]? = some t → Tryd.pinned.checked.prog.wantsStandIn t = false := by
  obtain rfl : f = 3 := Option.some.inj ((show Tryd.prog.funcNamed "loop.example/g00232/laws.FnExactReadSnap" = some 3 by kernel_rfl).symm.trans hf) |>.symm
  obtain rfl : fn = Tryd.f3 := (Option.some.inj (Tryd.func3.symm.trans hfn)).symm
  refine ⟨by kernel_rfl, fun j t ht => ?_⟩
  rw [Tryd.params3] at ht
  obtain rfl : t = 9 := by simpa using Array.mem_of_getElem? ht
  exact (show Tryd.prog.wantsStandIn 9 = false by kernel_rfl)

theorem card : Rows.FnExactReadSnapCardSaid :=
  Claim7.holds_tied_plain_at .later [] _ _ _ _ said (fun _ h => by cases h) (by kernel_rfl) (fun _ h => by cases h) fnExactReadSnap_row_tie rfl ⟨rfl, rfl⟩ (by kernel_rfl) rfl plain (by kernel_rfl)
end Go.Proofs.YtggogiepebnckaaDoor.fnExactReadSnap
