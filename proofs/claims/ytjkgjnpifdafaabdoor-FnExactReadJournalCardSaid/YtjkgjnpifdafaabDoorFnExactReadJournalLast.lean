/-
  For every number and text, laws.FnExactReadJournal returns true: impl.ReadJournal and spec.ReadJournal answer alike, and the answer owns its memory; nothing that was in memory is written. The table that impl reads and the handle that errors.As reads are tied to the program's text (the card).
-/
import Derived.Test.YtjkgjnpifdafaabDoorCards
import Derived.Test.YtjkgjnpifdafaabDoorTie
import Derived.Test.YtjkgjnpifdafaabDoorJoint30
import Derived.Test.YtjkgjnpifdafaabDoorJoint48
import Derived.WalkSmall
import Derived.WalkKit
import Derived.ProofKit
import Derived.OpenShut
import Derived.OpenVars
import Derived.Deep.DeepHandedRow
import Derived.Lib.LaidTab
import Derived.Stop.LaidErr
namespace Go.Proofs.YtjkgjnpifdafaabDoor.fnExactReadJournal
open Go.ChangeShapes Go.WideShapes Go.ChangeAt Go.ChangeMaps Go.RowKit

set_option maxRecDepth 1000000 in
set_option maxHeartbeats 4000000 in
theorem walk (n : Int) (_hn : (Lit.int .i64 n).wf = true) (s : ByteArray) (_hs : s.size ≤ maxLen) (w : World) (ht : Steps w) (he : w.cell? ⟨0, 0, none⟩ = some (rt hE)) :
    Calls Tryd.prog 4 #[.int .i64 n, .string s] w fun e w' => e = .returned (.bool true) ∧ Below w.heap.size w w' := by
  have HT := hid ht
  have HE := hid he
  have HEL := hid (World.block_lt_of_cell? w _ he)
  clear ht he
  by_cases hbig : (1048576 : Int) < (s.size : Int)
  · go_enter Tryd.func4, Tryd.ntmps4
    go_wp2
    go_ret
    exact ⟨rfl, Below.refl _ _⟩
  have hl : s.size ≤ 1048576 := by omega
  have cS' := fun w => (specReadJournal_any n s hl w).mono (fun e w' h => rjDid_parts h)
  have cI' := fun w ht he => (implReadJournal_any n s hl w ht he).mono (fun e w' h => rjDid_parts h)
  have h60 := readJ_len n s
  obtain ⟨j, hj⟩ : ∃ x, rjJ (readJ n s) = x := ⟨_, rfl⟩
  obtain ⟨k, hk⟩ : ∃ x, rjK (readJ n s) = x := ⟨_, rfl⟩
  obtain ⟨ok, hok⟩ : ∃ x, (readJ n s).isSome = x := ⟨_, rfl⟩
  simp only [hj, hk, hok] at cS' cI' h60
  have cS := hid cS'
  have cI := hid cI'
  clear cS' cI' hj hk hok
  go_enter Tryd.func4, Tryd.ntmps4
  go_wp2_with fail
  refine Calls.mono (cS.out w) ?_
  rintro e w1 ⟨a1, c1, rfl, o1, b1⟩
  have hx1 : BlockIs (w1.alloc (.cells #[.int .i64 j.n, .int .i64 j.tm, .int .i64 j.vt, .int .i64 j.s, .int .i64 j.t, .slice a1 j.l.length c1] 34)) w1.heap.size 34 [.int .i64 j.n, .int .i64 j.tm, .int .i64 j.vt, .int .i64 j.s, .int .i64 j.t, .slice a1 j.l.length c1] := heap_alloc_new w1 _
  have bx1 := below_more (Below.refl w1.heap.size w1) (.cells #[.int .i64 j.n, .int .i64 j.tm, .int .i64 j.vt, .int .i64 j.s, .int .i64 j.t, .slice a1 j.l.length c1] 34)
  have X1 := hid hx1
  have Z1 := hid (o1.on bx1)
  have B1 := hid (below_via b1 bx1)
  have S1 := hid bx1.size
  clear o1 b1 hx1 bx1
  go_wp2_with fail
  refine Calls.mono (cI.out _ (steps_on HT.out B1.out) ((B1.out.cell (p := ⟨0, 0, none⟩) HEL.out).trans HE.out)) ?_
  rintro e w2 ⟨a2, c2, rfl, o2, b2⟩
  have hx2 : BlockIs (w2.alloc (.cells #[.int .i64 j.n, .int .i64 j.tm, .int .i64 j.vt, .int .i64 j.s, .int .i64 j.t, .slice a2 j.l.length c2] 34)) w2.heap.size 34 [.int .i64 j.n, .int .i64 j.tm, .int .i64 j.vt, .int .i64 j.s, .int .i64 j.t, .slice a2 j.l.length c2] := heap_alloc_new w2 _
  have bx2 := below_more (Below.refl w2.heap.size w2) (.cells #[.int .i64 j.n, .int .i64 j.tm, .int .i64 j.vt, .int .i64 j.s, .int .i64 j.t, .slice a2 j.l.length c2] 34)
  have b12 := below_via b2 bx2
  have X2 := hid (X1.out.on b12 X1.out.lt)
  have Y2 := hid hx2
  have R2 := hid (o2.on bx2)
  have Z2 := hid (Z1.out.on b12)
  have B2 := hid (below_via B1.out b12)
  have SB := hid B1.out.size
  have S2 := hid b12.size
  have S3 := hid bx2.size
  obtain ⟨nb, hnb⟩ : ∃ n, (w1.alloc (.cells #[.int .i64 j.n, .int .i64 j.tm, .int .i64 j.vt, .int .i64 j.s, .int .i64 j.t, .slice a1 j.l.length c1] 34)).heap.size = n := ⟨_, rfl⟩
  obtain ⟨nh, hnh⟩ : ∃ n, w2.heap.size = n := ⟨_, rfl⟩
  rw [hnb] at R2 S1 SB S2
  have R2 : Hid (OwnAt _ _ _ _ _ nb nh) := hid (by have := R2.out; rw [hnh] at this; exact this)
  have S3 : Hid (nh ≤ _) := hid (by have := S3.out; rw [hnh] at this; exact this)
  clear o2 b2 B1 Z1 hx2 bx2 b12 X1 hnb hnh
  have x0 := X2.out.cell (j := 0) rfl
  have x1 := X2.out.cell (j := 1) rfl
  have x2 := X2.out.cell (j := 2) rfl
  have x3 := X2.out.cell (j := 3) rfl
  have x4 := X2.out.cell (j := 4) rfl
  have x5 := X2.out.cell (j := 5) rfl
  have y0 := Y2.out.cell (j := 0) rfl
  have y1 := Y2.out.cell (j := 1) rfl
  have y2 := Y2.out.cell (j := 2) rfl
  have y3 := Y2.out.cell (j := 3) rfl
  have y4 := Y2.out.cell (j := 4) rfl
  have y5 := Y2.out.cell (j := 5) rfl
  go_wp2_with fail
  refine Calls.mono (eqJour_same j.n j.tm j.vt j.s j.t a2 a1 j.l c2 c1 (by omega) _ R2.out.ents Z2.out.ents) ?_
  rintro e w3 ⟨rfl, b3⟩
  have X3 := hid (X2.out.on b3 X2.out.lt)
  have Y3 := hid (Y2.out.on b3 Y2.out.lt)
  have R3 := hid (R2.out.on b3)
  have Z3 := hid (Z2.out.on b3)
  have B3 := hid (below_via B2.out b3)
  have S4 := hid (Nat.le_trans S2.out b3.size)
  have S5 := hid (Nat.le_trans S3.out b3.size)
  clear b3 R2 Z2 B2 X2 Y2 S2 S3 x0 x1 x2 x3 x4 x5 y0 y1 y2 y3 y4 y5
  have y0 := Y3.out.cell (j := 0) rfl
  have y1 := Y3.out.cell (j := 1) rfl
  have y2 := Y3.out.cell (j := 2) rfl
  have y3 := Y3.out.cell (j := 3) rfl
  have y4 := Y3.out.cell (j := 4) rfl
  have y5 := Y3.out.cell (j := 5) rfl
  go_wp2_with fail
  refine (markJour_o j.n j.tm j.vt j.s j.t 1 a2 c2 j.l nb nh (by omega) (by omega) w3 S4.out S5.out R3.out).mono ?_
  rintro e w4 ⟨rfl, M4, kb, bb⟩
  have MM := hid M4
  have Z4 := hid (Z3.out.kept2 kb (Or.inl S1.out))
  have X4 := hid (X3.out.kept2 kb (by decide))
  have Y4 := hid (Y3.out.kept2 kb (by decide))
  have B4 := hid (B3.out.trans (bb.mono SB.out))
  clear M4 R3 Z3 B3 kb bb X3 Y3 y0 y1 y2 y3 y4 y5
  obtain ⟨N, hN⟩ : ∃ N, 1 + 3 * j.l.length = N := ⟨_, rfl⟩
  have hN5 : N ≤ 181 := by omega
  have cH' := fun w h => heldJour_any j.n j.tm j.vt j.s j.t a2 j.l.length c2 1 (by omega) (by omega) w h
  rw [hN] at cH' ⊢
  have cH := hid cH'
  clear cH' hN
  have y0 := Y4.out.cell (j := 0) rfl
  have y1 := Y4.out.cell (j := 1) rfl
  have y2 := Y4.out.cell (j := 2) rfl
  have y3 := Y4.out.cell (j := 3) rfl
  have y4 := Y4.out.cell (j := 4) rfl
  have y5 := Y4.out.cell (j := 5) rfl
  go_wp2_with fail
  refine Calls.mono (cH.out w4 MM.out) ?_
  rintro e w5 ⟨rfl, b5⟩
  have M5 := hid (MM.out.on b5)
  have Z5 := hid (Z4.out.on b5)
  have X5 := hid (X4.out.on b5 X4.out.lt)
  have Y5 := hid (Y4.out.on b5 Y4.out.lt)
  have B5 := hid (below_via B4.out b5)
  clear b5 MM Z4 X4 Y4 B4 y0 y1 y2 y3 y4 y5
  go_wp2_with fail
  refine Calls.mono (cI.out w5 (steps_on HT.out B5.out) ((B5.out.cell (p := ⟨0, 0, none⟩) HEL.out).trans HE.out)) ?_
  rintro e w6 ⟨a6, c6, rfl, o6, b6⟩
  have hx6 : BlockIs (w6.alloc (.cells #[.int .i64 j.n, .int .i64 j.tm, .int .i64 j.vt, .int .i64 j.s, .int .i64 j.t, .slice a6 j.l.length c6] 34)) w6.heap.size 34 [.int .i64 j.n, .int .i64 j.tm, .int .i64 j.vt, .int .i64 j.s, .int .i64 j.t, .slice a6 j.l.length c6] := heap_alloc_new w6 _
  have V6 := hid hx6
  have bx6 := below_more (Below.refl w6.heap.size w6) (.cells #[.int .i64 j.n, .int .i64 j.tm, .int .i64 j.vt, .int .i64 j.s, .int .i64 j.t, .slice a6 j.l.length c6] 34)
  have b56 := below_via b6 bx6
  have R6 := hid (o6.on bx6)
  have Z6 := hid (Z5.out.on b56)
  have M6 := hid (M5.out.on b56)
  have X6 := hid (X5.out.on b56 X5.out.lt)
  have Y6 := hid (Y5.out.on b56 Y5.out.lt)
  have B6 := hid (below_via B5.out b56)
  clear o6 b6 bx6 b56 Z5 M5 X5 Y5 B5 hx6
  have x0 := X6.out.cell (j := 0) rfl
  have x1 := X6.out.cell (j := 1) rfl
  have x2 := X6.out.cell (j := 2) rfl
  have x3 := X6.out.cell (j := 3) rfl
  have x4 := X6.out.cell (j := 4) rfl
  have x5 := X6.out.cell (j := 5) rfl
  have v0 := V6.out.cell (j := 0) rfl
  have v1 := V6.out.cell (j := 1) rfl
  have v2 := V6.out.cell (j := 2) rfl
  have v3 := V6.out.cell (j := 3) rfl
  have v4 := V6.out.cell (j := 4) rfl
  have v5 := V6.out.cell (j := 5) rfl
  go_wp2_with fail
  refine Calls.mono (eqJour_same j.n j.tm j.vt j.s j.t a6 a1 j.l c6 c1 (by omega) _ R6.out.ents Z6.out.ents) ?_
  rintro e w7 ⟨rfl, b7⟩
  have M7 := hid (M6.out.on b7)
  have Y7 := hid (Y6.out.on b7 Y6.out.lt)
  have B7 := hid (below_via B6.out b7)
  clear b7 Z6 M6 B6 R6 X6 Y6 V6 x0 x1 x2 x3 x4 x5 v0 v1 v2 v3 v4 v5
  have y0 := Y7.out.cell (j := 0) rfl
  have y1 := Y7.out.cell (j := 1) rfl
  have y2 := Y7.out.cell (j := 2) rfl
  have y3 := Y7.out.cell (j := 3) rfl
  have y4 := Y7.out.cell (j := 4) rfl
  have y5 := Y7.out.cell (j := 5) rfl
  go_wp2_with fail
  refine Calls.mono (cH.out w7 M7.out) ?_
  rintro e w8 ⟨rfl, b8⟩
  have B8 := hid (below_via B7.out b8)
  clear b8 B7 M7 Y7 y0 y1 y2 y3 y4 y5
  go_wp2
  go_ret
  exact ⟨rfl, B8.out⟩

theorem own : ownKnob Tryd.prog.godebug = none := by kernel_rfl
theorem laidOut : laidOutB Tryd.prog = true := by kernel_rfl
theorem rowed : varsRowed Tryd.prog Rows.fnExactReadJournalSpec.vars = true := by kernel_rfl
/-- what the row's list gives: what loop.example/g00232/impl.fourSteps holds -/
theorem table0 {W : World} (h : laidMetH Tryd.prog Rows.fnExactReadJournalRow.laid W) : Lib.TabIs Tryd.prog W "loop.example/g00232/impl.fourSteps" .u32 stepsTab := by
  have h1 : laidMet Tryd.prog [("loop.example/g00232/impl.fourSteps", Rows.laid_loop_example_g00232_impl_fourSteps)] W := h.1
  skip
  have h2 := h1
  rw [show (Rows.laid_loop_example_g00232_impl_fourSteps : DataW Unit) = Lib.tabData .u32 stepsTab by kernel_rfl] at h2
  exact Lib.tabIs_of_head (show Tryd.prog.globalNamed "loop.example/g00232/impl.fourSteps" = some 1 by kernel_rfl) (show (Tryd.prog.globals[1]?).map (·.type) = some 171 by kernel_rfl) Tryd.underlying171 Tryd.underlying115 (show Tryd.prog.cellsOf 115 = 1 by kernel_rfl) (show Tryd.prog.cellsOf 171 = 16 by kernel_rfl) h2
theorem handleRt : (Tryd.prog.cutTypes.find? (·.1 == "internal/reflectlite.rtype")).map (·.2) = some 156 := by kernel_rfl
theorem handleRow : ((List.range 200).filter fun t => Tryd.prog.rowNamed t [101, 114, 114, 111, 114]) = [63] := by kernel_rfl
theorem handleSize : Tryd.prog.types.size = 200 := by kernel_rfl
theorem handleAt : Tryd.prog.globalNamed "errors.errorType" = some 0 := by kernel_rfl
/-- what the row's list gives: the handle that errors.errorType holds -/
theorem handle0 {W : World} (h : laidMetH Tryd.prog Rows.fnExactReadJournalRow.laid W) : W.cell? ⟨0, 0, none⟩ = some (rt hE) := by
  have h1 : handlesMet Tryd.prog [("errors.errorType", Rows.laid_errors_errorType)] W := h.2
  obtain ⟨name, u, ty, e1, e2, e3, e4, e5⟩ := h1 _ (List.mem_singleton.2 rfl)
  have en : name = [101, 114, 114, 111, 114] := (Option.some.inj e1).symm
  subst en
  obtain rfl := Option.some.inj (handleRt.symm.trans e2)
  have hm : ty ∈ (List.range 200).filter fun t => Tryd.prog.rowNamed t [101, 114, 114, 111, 114] := List.mem_filter.2 ⟨List.mem_range.2 (by rw [← handleSize]; exact e3), e4⟩
  rw [handleRow] at hm
  obtain rfl := List.mem_singleton.1 hm
  have hh : typeHandle Tryd.prog 63 = hE := by kernel_rfl
  rw [hh] at e5
  simpa using World.var?_cell handleAt e5 0
set_option maxRecDepth 1000000 in
theorem contract (H : Type) (enc : TypeId × Value → H) (W : World) (base : Nat) (args : Array Value) (ds gs : List (DataW H)) (before : List MemPlace)
    (hval : ∀ (j : Nat) t v, Tryd.f4.params[j]? = some t → args[j]? = some v → Value.okWide Tryd.prog W .any base t v)
    (hW : DataW.Whole enc Tryd.prog Tryd.f4.params.toList Rows.fnExactReadJournalSpec.vars false W args.toList ds gs before) (hL : laidMetH Tryd.prog Rows.fnExactReadJournalRow.laid W) :
    Calls Tryd.prog 4 args W fun e W' => ∃ v, e = .returned v ∧ Rows.fnExactReadJournalSpec.post enc Tryd.prog Tryd.f4 false true false false W args v W' := by
  have hW' := hW
  obtain ⟨p, q, hA0, hV0, rfl, hfz, hnd⟩ := hW
  have hV : DataW.TrodVars enc Tryd.prog W (fun _ => true) Rows.fnExactReadJournalSpec.vars gs q := hV0
  have hA : DataW.TrodAll enc Tryd.prog W 0 (fun _ => true) true Tryd.f4.params.toList args.toList ds p := hA0
  rw [Tryd.params4] at hA hval
  obtain ⟨v0, vs0, d0, ds0, p0, q0, hargs0, rfl, rfl, h0, r0⟩ := trodAll_cons hA
  obtain ⟨v1, vs1, d1, ds1, p1, q1, hargs1, rfl, rfl, h1, r1⟩ := trodAll_cons r0
  subst hargs1
  obtain ⟨rfl, rfl, rfl⟩ := trodAll_nil r1
  obtain rfl : args = #[v0, v1] := by cases args; simp_all
  obtain ⟨a0, rfl, rfl, rfl, w0⟩ := open_int Tryd.underlying3 (hval 0 3 v0 rfl rfl) h0
  obtain ⟨a1, rfl, rfl, rfl, w1⟩ := open_string Tryd.underlying9 (hval 1 9 v1 rfl rfl) h1
  clear hA0 hV0
  have hgs : gs.length = 1 := by
    have := hV
    clear hV hW' hL
    match gs, this with
    | [_], _ => rfl
  match gs, hgs, hV, hW' with
  | [g0], _, hV, hW' =>
    refine (walk a0 w0 a1 w1 W (table0 hL) (handle0 hL)).mono fun e W' ⟨he, bel⟩ => ?_
    subst he
    exact ⟨_, rfl, _, _, _, [], _, _, hW', trodAll_mk1 (shut_bool Tryd.underlying4 _), trodAll_cons_mk (shut_int Tryd.underlying3 w0) (trodAll_cons_mk (shut_string Tryd.underlying9 w1) (trodAll_mk0)), Below.trodVars laidOut bel rowed hV, bel.frame _, fun h => by cases h⟩

def put (cs : Array Value) : Obj → Obj
  | .cells _ t frozen => .cells cs t frozen
  | o => o

/-- a world for the witness: the tables hold what their initialisers lay -/
def laidWorld (w : World) : World := { w with heap := ((w.heap.modify 0 (put #[rt hE])).modify 1 (put (([0, 1166650509, 2333301018, 3466261911, 3189058079, 4221339282, 889615109, 1888477064, 3558460437, 2442158232, 1594529039, 444807554, 1779230218, 797264519, 3776954128, 2761298845] : List Int).map (Value.int .u32)).toArray)) }
theorem laid_met (os : Os) : laidMetH Tryd.prog Rows.fnExactReadJournalRow.laid ((laidWorld (World.holding Tryd.prog os ⟨#[], #[], []⟩)).forCall (fun _ _ => 0) ⟨#[], #[.int .i64 0, .string ByteArray.empty], []⟩).memory :=
  laidMetH_of_parts (laidMet_of_run' 8 (by kernel_rfl) (by kernel_rfl)) (by kernel_rfl)
theorem reads (os : Os) {H : Type} (enc : TypeId × Value → H) : ∃ places, DataW.whole enc Tryd.prog ((laidWorld (World.holding Tryd.prog os ⟨#[], #[], []⟩)).forCall (fun _ _ => 0) ⟨#[], #[.int .i64 0, .string ByteArray.empty], []⟩).memory Tryd.f4.params.toList Rows.fnExactReadJournalSpec.vars false #[Value.int .i64 0, .string ByteArray.empty].toList 8 = some ([.lit (.int .i64 0), .lit (.string [])], [Rows.laid_loop_example_g00232_impl_fourSteps], places) :=
  ⟨(List.range 16).map (MemPlace.cell 1), by kernel_rfl⟩

set_option maxRecDepth 1000000 in
theorem lifted (os : Os) (started : os.Started) (H : Type) (enc : TypeId × Value → H) (F : Stop.Interp) :
    ReturnsInHanded {} Tryd.checked os 4 .any ((OpenSpec.ofChange Rows.fnExactReadJournalSpec).preRow enc Tryd.prog Tryd.f4 Rows.fnExactReadJournalRow.domain false Rows.fnExactReadJournalRow.laid) (((OpenSpec.ofChange Rows.fnExactReadJournalSpec).at F).post enc Tryd.prog Tryd.f4 false true false false) := by
  obtain ⟨places, hx⟩ := reads os enc
  refine returnsInHanded_of_row (C := Tryd.checked) (s := OpenSpec.ofChange Rows.fnExactReadJournalSpec) own started (by kernel_rfl) Tryd.func4
    (witness_row_at (enc := enc) (C := Tryd.checked) false (laidWorld (World.holding Tryd.prog os ⟨#[], #[], []⟩)) #[.int .i64 0, .string ByteArray.empty] rfl (by kernel_rfl) (by kernel_rfl) (by kernel_rfl)
      (OpenSpec.preRow_of_cond 8 hx (by kernel_rfl) (fun k hk => by cases hk) (by kernel_rfl) (laid_met os))) ?_
  intro W base args ds gs before hval hW _ _ _ hL _ _
  exact contract H enc W base args ds gs before hval hW hL

theorem said : Rows.FnExactReadJournalSaid :=
  OpenClaim.holds_of_cond 4 Tryd.f4 rfl rfl rfl rfl rfl rfl rfl ⟨rfl, rfl, rfl, rfl, rfl⟩ rfl rfl rfl rfl rfl (by kernel_rfl) Tryd.func4 (by kernel_rfl)
    (of_decide_eq_true (by kernel_rfl)) (by unfold Func.isWrapper; first | (rw [if_pos (by decide +kernel)]; kernel_rfl) | (rw [if_neg (by decide +kernel)]; exact ⟨rfl, rfl⟩))
    (fun os started H enc _ F => by rw [OpenClaim.pre_eq_preRow]; exact lifted os started H enc F)

theorem plain (f : FuncId) (fn : Func) (hf : Tryd.pinned.checked.prog.funcNamed "loop.example/g00232/laws.FnExactReadJournal" = some f) (hfn : Tryd.pinned.checked.prog.funcs[f]? = some fn) :
    true = Tryd.pinned.checked.prog.looks [] ∧ ∀ (j : Nat) t, fn.params[j]? = some t → Tryd.pinned.checked.prog.wantsStandIn t = false := by
  obtain rfl : f = 4 := Option.some.inj ((show Tryd.prog.funcNamed "loop.example/g00232/laws.FnExactReadJournal" = some 4 by kernel_rfl).symm.trans hf) |>.symm
  obtain rfl : fn = Tryd.f4 := (Option.some.inj (Tryd.func4.symm.trans hfn)).symm
  refine ⟨by kernel_rfl, fun j t ht => ?_⟩
  rw [Tryd.params4] at ht
  rcases (show t = 3 ∨ t = 9 by simpa using Array.mem_of_getElem? ht) with rfl | rfl
  · exact (show Tryd.prog.wantsStandIn 3 = false by kernel_rfl)
  · exact (show Tryd.prog.wantsStandIn 9 = false by kernel_rfl)

theorem card : Rows.FnExactReadJournalCardSaid :=
  Claim7.holds_tied_plain_at .later [] _ _ _ _ said (fun _ h => by cases h) (by kernel_rfl) (fun _ h => by cases h) fnExactReadJournal_row_tie rfl ⟨rfl, rfl⟩ (by kernel_rfl) rfl plain (by kernel_rfl)
end Go.Proofs.YtjkgjnpifdafaabDoor.fnExactReadJournal
