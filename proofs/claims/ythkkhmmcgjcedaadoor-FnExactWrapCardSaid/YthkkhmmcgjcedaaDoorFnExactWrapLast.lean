/-
  For every argument, laws.FnExactWrap returns true: impl.Wrap and spec.Wrap answer alike, the answer owns its memory, a second call answers so again; nothing that was in memory is written.
-/
import Derived.Test.YthkkhmmcgjcedaaDoorCards
import Derived.Test.YthkkhmmcgjcedaaDoorTie
import Derived.Test.YthkkhmmcgjcedaaDoorJoint1
import Derived.Test.YthkkhmmcgjcedaaDoorJoint2
import Derived.Test.YthkkhmmcgjcedaaDoorJoint4
import Derived.Test.YthkkhmmcgjcedaaDoorJoint22
import Derived.Test.YthkkhmmcgjcedaaDoorJoint40
import Derived.WalkSmall
import Derived.WalkKit
import Derived.ProofKit
import Derived.OpenShut
import Derived.OpenVars
import Derived.Deep.DeepHandedRow
import Derived.Lib.LaidTab
import Derived.Stop.LaidErr
namespace Go.Proofs.YthkkhmmcgjcedaaDoor.fnExactWrap
open Go.ChangeShapes Go.WideShapes Go.ChangeAt Go.ChangeMaps Go.RowKit

theorem kept_grown {w w2 : World} {base : Nat} {v v' : Value} {n : Nat} {xs : List Value} {H : Nat} (h : w.ownsRow base 9 1 v n xs) (hg : w.grownBy w2 v'.ownBlock) (h1 : ∀ k, v.ownBlock = some k → k < H) (h2 : ∀ k, v'.ownBlock = some k → H ≤ k) : w2.ownsRow base 9 1 v n xs := by
  refine h.kept hg ?_
  cases hv : v.ownBlock with
  | none => exact Or.inl rfl
  | some g =>
    refine Or.inr fun e => ?_
    have a1 := h1 g hv
    have a2 := h2 g e.symm
    omega
theorem block_grown {w w2 : World} {g : Nat} {t : TypeId} {cs : List Value} {v : Option Nat} (h : BlockIs w g t cs) (hg : w.grownBy w2 v) (h1 : ∀ k, v = some k → g < k) : BlockIs w2 g t cs := by
  have hlt := h.lt
  unfold BlockIs at h ⊢
  rw [hg.block g hlt (fun e => by have := h1 g e.symm; omega)]
  exact h

set_option maxRecDepth 1000000 in
set_option maxHeartbeats 4000000 in
theorem walk (d : SegD) (hf : d.Fits) (src : Int) (_h1 : (Lit.int .i64 src).wf = true) (dst : Int) (_h2 : (Lit.int .i64 dst).wf = true) (ident : Int) (_h3 : (Lit.int .i64 ident).wf = true) (w : World) (ht : Steps w) :
    Calls Tryd.prog 3 #[.agg #[.int .i64 d.num, .int .i64 d.ack, .int .i64 d.flags, .string d.body], .int .i64 src, .int .i64 dst, .int .i64 ident] w fun e w' => e = .returned (.bool true) ∧ Below w.heap.size w w' := by
  have HF := hid hf
  have HT := hid ht
  have hb0 := below_more (Below.refl w.heap.size w) (.cells #[.int .i64 d.num, .int .i64 d.ack, .int .i64 d.flags, .string d.body] 23)
  have hx0 : BlockIs (w.alloc (.cells #[.int .i64 d.num, .int .i64 d.ack, .int .i64 d.flags, .string d.body] 23)) w.heap.size 23 [.int .i64 d.num, .int .i64 d.ack, .int .i64 d.flags, .string d.body] := heap_alloc_new w _
  obtain ⟨W0, hW0⟩ : ∃ W0, w.alloc (.cells #[.int .i64 d.num, .int .i64 d.ack, .int .i64 d.flags, .string d.body] 23) = W0 := ⟨_, rfl⟩
  rw [hW0] at hb0 hx0
  have X0 := hid hx0
  have B0 := hid hb0
  have h00 : w.heap.size < W0.heap.size := hx0.lt
  have c00 := X0.out.cell (j := 0) rfl
  have c01 := X0.out.cell (j := 1) rfl
  have c02 := X0.out.cell (j := 2) rfl
  have c03 := X0.out.cell (j := 3) rfl
  clear hb0 hx0 hf ht
  go_enter Tryd.func3, Tryd.ntmps3
  go_wp2_with fail
  refine (szSeg_any d 1048576 (by omega) (by omega) HF.out _).mono ?_
  rintro e w1 ⟨hor, b⟩
  have X1 := hid (X0.out.on b X0.out.lt)
  have B1 := hid (below_via B0.out b)
  have O1 := hid b.size
  have c10 := X1.out.cell (j := 0) rfl
  have c11 := X1.out.cell (j := 1) rfl
  have c12 := X1.out.cell (j := 2) rfl
  have c13 := X1.out.cell (j := 3) rfl
  clear b X0 B0 c00 c01 c02 c03 hW0
  rcases hor with ⟨hneg, rfl⟩ | ⟨hnn, rfl⟩
  · go_wp2
    go_ret
    exact ⟨rfl, B1.out⟩
  have hnn' : ¬ (1048576 : Int) - segOne d < 0 := by omega
  have hsz : d.body.size ≤ 1048576 := by simp only [segOne] at hnn; omega
  clear hnn
  have P1 := hid (fun w => specWrap_any d src dst ident (by omega) w)
  have P2 := hid (fun w h => implWrap_any d src dst ident (by omega) w h)
  unfold WrapDid at P1 P2
  have hl : (wrapD d src dst ident).length ≤ 1000000 := by rw [wrapD, List.length_map]; have := cutD_few (wrapDg d src dst ident) 8; omega
  obtain ⟨ts, hts⟩ : ∃ l, wrapD d src dst ident = l := ⟨_, rfl⟩
  obtain ⟨ok, hok⟩ : ∃ l, wrapOk d src dst ident = l := ⟨_, rfl⟩
  rw [hts, hok] at P1 P2
  rw [hts] at hl
  clear hts hok
  go_wp2_with fail
  refine (toSeg_any d _).mono ?_
  rintro e w2 ⟨rfl, b⟩
  have X2 := hid (X1.out.on b X1.out.lt)
  have B2 := hid (below_via B1.out b)
  have O2 := hid b.size
  have c20 := X2.out.cell (j := 0) rfl
  have c21 := X2.out.cell (j := 1) rfl
  have c22 := X2.out.cell (j := 2) rfl
  have c23 := X2.out.cell (j := 3) rfl
  clear b X1 B1 c10 c11 c12 c13
  go_wp2_with fail
  refine (P1.out _).mono ?_
  rintro e w3 ⟨v0, rfl, o3, b⟩
  have X3 := hid (X2.out.on b X2.out.lt)
  have B3 := hid (below_via B2.out b)
  have O3 := hid b.size
  have A3 := hid o3
  have HV0 : Hid (∀ k, v0.ownBlock = some k → k < w3.heap.size) := fun k hk => (o3.lt k hk).2
  clear o3
  have c30 := X3.out.cell (j := 0) rfl
  have c31 := X3.out.cell (j := 1) rfl
  have c32 := X3.out.cell (j := 2) rfl
  have c33 := X3.out.cell (j := 3) rfl
  clear b X2 B2 c20 c21 c22 c23
  go_wp2_with fail
  refine (toSeg_any d _).mono ?_
  rintro e w4 ⟨rfl, b⟩
  have X4 := hid (X3.out.on b X3.out.lt)
  have B4 := hid (below_via B3.out b)
  have O4 := hid b.size
  have A4 := hid (texts_below A3.out b)
  have c40 := X4.out.cell (j := 0) rfl
  have c41 := X4.out.cell (j := 1) rfl
  have c42 := X4.out.cell (j := 2) rfl
  have c43 := X4.out.cell (j := 3) rfl
  clear b X3 B3 c30 c31 c32 c33 A3
  go_wp2_with fail
  refine (P2.out _ (steps_on HT.out B4.out)).mono ?_
  rintro e w5 ⟨v1, rfl, o5, b⟩
  have X5 := hid (X4.out.on b X4.out.lt)
  have B5 := hid (below_via B4.out b)
  have O5 := hid b.size
  have A5 := hid (texts_below A4.out b)
  have G5 := hid o5
  clear o5
  have c50 := X5.out.cell (j := 0) rfl
  have c51 := X5.out.cell (j := 1) rfl
  have c52 := X5.out.cell (j := 2) rfl
  have c53 := X5.out.cell (j := 3) rfl
  clear b X4 B4 c40 c41 c42 c43 A4
  cases ok
  all_goals
    go_wp2_with fail
    refine (eqStringS_same hl G5.out A5.out).mono ?_
    rintro e w6 ⟨rfl, b⟩
    have X6 := hid (X5.out.on b X5.out.lt)
    have B6 := hid (below_via B5.out b)
    have O6 := hid b.size
    have A6 := hid (texts_below A5.out b)
    have G6 := hid (texts_below G5.out b)
    have c60 := X6.out.cell (j := 0) rfl
    have c61 := X6.out.cell (j := 1) rfl
    have c62 := X6.out.cell (j := 2) rfl
    have c63 := X6.out.cell (j := 3) rfl
    clear b X5 B5 c50 c51 c52 c53 A5 G5
    go_wp2_with fail
    refine (markStringS_any 1 (by omega) hl G6.out).mono ?_
    rintro e w7 ⟨rfl, o7, g7⟩
    have hlo : ∀ k, v1.ownBlock = some k → w4.heap.size ≤ k := fun k hk => (G6.out.lt k hk).1
    have hw4 : w3.heap.size ≤ w4.heap.size := O4.out
    have X7 := hid (block_grown X6.out g7 (fun k hk => by have := hlo k hk; have := O1.out; have := O2.out; have := O3.out; omega))
    have A7 : Hid (w7.ownsRow w2.heap.size 9 1 v0 ts.length (st ts)) := kept_grown (H := w4.heap.size) A6.out g7 (fun k hk => by have := HV0.out k hk; omega) hlo
    have B7 := hid (B6.out.grown g7 B6.out.size (fun k hk => by have := hlo k hk; have := O1.out; have := O2.out; have := O3.out; omega))
    have M7 := hid o7
    have O7 := hid g7.size
    have c70 := X7.out.cell (j := 0) rfl
    have c71 := X7.out.cell (j := 1) rfl
    have c72 := X7.out.cell (j := 2) rfl
    have c73 := X7.out.cell (j := 3) rfl
    clear o7 g7 X6 B6 A6 G6 c60 c61 c62 c63
    go_wp2_with fail
    refine (heldStringS_any 1 (by omega) hl M7.out).mono ?_
    rintro e w8 ⟨rfl, b⟩
    have X8 := hid (X7.out.on b X7.out.lt)
    have B8 := hid (below_via B7.out b)
    have O8 := hid b.size
    have A8 := hid (texts_below A7.out b)
    have M8 := hid (texts_below M7.out b)
    have c80 := X8.out.cell (j := 0) rfl
    have c81 := X8.out.cell (j := 1) rfl
    have c82 := X8.out.cell (j := 2) rfl
    have c83 := X8.out.cell (j := 3) rfl
    clear b X7 B7 c70 c71 c72 c73 A7 M7
    go_wp2_with fail
    refine (toSeg_any d _).mono ?_
    rintro e w9 ⟨rfl, b⟩
    have X9 := hid (X8.out.on b X8.out.lt)
    have B9 := hid (below_via B8.out b)
    have O9 := hid b.size
    have A9 := hid (texts_below A8.out b)
    have M9 := hid (texts_below M8.out b)
    have c90 := X9.out.cell (j := 0) rfl
    have c91 := X9.out.cell (j := 1) rfl
    have c92 := X9.out.cell (j := 2) rfl
    have c93 := X9.out.cell (j := 3) rfl
    clear b X8 B8 c80 c81 c82 c83 A8 M8
    go_wp2_with fail
    refine (P2.out _ (steps_on HT.out B9.out)).mono ?_
    rintro e w10 ⟨v2, rfl, o10, b⟩
    have X10 := hid (X9.out.on b X9.out.lt)
    have B10 := hid (below_via B9.out b)
    have O10 := hid b.size
    have A10 := hid (texts_below A9.out b)
    have M10 := hid (texts_below M9.out b)
    have H10 := hid o10
    clear o10
    have c100 := X10.out.cell (j := 0) rfl
    have c101 := X10.out.cell (j := 1) rfl
    have c102 := X10.out.cell (j := 2) rfl
    have c103 := X10.out.cell (j := 3) rfl
    clear b X9 B9 c90 c91 c92 c93 A9 M9
    go_wp2_with fail
    refine (eqStringS_same hl H10.out A10.out).mono ?_
    rintro e w11 ⟨rfl, b⟩
    have X11 := hid (X10.out.on b X10.out.lt)
    have B11 := hid (below_via B10.out b)
    have O11 := hid b.size
    have M11 := hid (texts_below M10.out b)
    have c110 := X11.out.cell (j := 0) rfl
    have c111 := X11.out.cell (j := 1) rfl
    have c112 := X11.out.cell (j := 2) rfl
    have c113 := X11.out.cell (j := 3) rfl
    clear b X10 B10 c100 c101 c102 c103 A10 M10 H10
    go_wp2_with fail
    refine (heldStringS_any 1 (by omega) hl M11.out).mono ?_
    rintro e w12 ⟨rfl, b⟩
    have X12 := hid (X11.out.on b X11.out.lt)
    have B12 := hid (below_via B11.out b)
    have O12 := hid b.size
    have c120 := X12.out.cell (j := 0) rfl
    have c121 := X12.out.cell (j := 1) rfl
    have c122 := X12.out.cell (j := 2) rfl
    have c123 := X12.out.cell (j := 3) rfl
    clear b X11 B11 c110 c111 c112 c113
    go_wp2
    go_ret
    exact ⟨rfl, B12.out⟩

theorem own : ownKnob Tryd.prog.godebug = none := by kernel_rfl
theorem laidOut : laidOutB Tryd.prog = true := by kernel_rfl
theorem rowed : varsRowed Tryd.prog Rows.fnExactWrapSpec.vars = true := by kernel_rfl
/-- what the row's list gives: what loop.example/g00232/impl.fourSteps holds -/
theorem table0 {W : World} (h : laidMetH Tryd.prog Rows.fnExactWrapRow.laid W) : Lib.TabIs Tryd.prog W "loop.example/g00232/impl.fourSteps" .u32 stepsTab := by
  have h1 : laidMet Tryd.prog Rows.fnExactWrapRow.laid W := h
  unfold Rows.fnExactWrapRow at h1
  have h2 := h1
  rw [show (Rows.laid_loop_example_g00232_impl_fourSteps : DataW Unit) = Lib.tabData .u32 stepsTab by kernel_rfl] at h2
  exact Lib.tabIs_of_head (show Tryd.prog.globalNamed "loop.example/g00232/impl.fourSteps" = some 0 by kernel_rfl) (show (Tryd.prog.globals[0]?).map (·.type) = some 67 by kernel_rfl) Tryd.underlying67 Tryd.underlying63 (show Tryd.prog.cellsOf 63 = 1 by kernel_rfl) (show Tryd.prog.cellsOf 67 = 16 by kernel_rfl) h2
set_option maxRecDepth 1000000 in
theorem contract (H : Type) (enc : TypeId × Value → H) (W : World) (base : Nat) (args : Array Value) (ds gs : List (DataW H)) (before : List MemPlace)
    (hval : ∀ (j : Nat) t v, Tryd.f3.params[j]? = some t → args[j]? = some v → Value.okWide Tryd.prog W .any base t v)
    (hW : DataW.Whole enc Tryd.prog Tryd.f3.params.toList Rows.fnExactWrapSpec.vars false W args.toList ds gs before) (hL : laidMetH Tryd.prog Rows.fnExactWrapRow.laid W) :
    Calls Tryd.prog 3 args W fun e W' => ∃ v, e = .returned v ∧ Rows.fnExactWrapSpec.post enc Tryd.prog Tryd.f3 false true false false W args v W' := by
  have hW' := hW
  obtain ⟨p, q, hA0, hV0, rfl, hfz, hnd⟩ := hW
  have hV : DataW.TrodVars enc Tryd.prog W (fun _ => true) Rows.fnExactWrapSpec.vars gs q := hV0
  have hA : DataW.TrodAll enc Tryd.prog W 0 (fun _ => true) true Tryd.f3.params.toList args.toList ds p := hA0
  rw [Tryd.params3] at hA hval
  obtain ⟨v0, vs0, d0, ds0, p0, q0, hargs0, rfl, rfl, h0, r0⟩ := trodAll_cons hA
  obtain ⟨v1, vs1, d1, ds1, p1, q1, hargs1, rfl, rfl, h1, r1⟩ := trodAll_cons r0
  subst hargs1
  obtain ⟨v2, vs2, d2, ds2, p2, q2, hargs2, rfl, rfl, h2, r2⟩ := trodAll_cons r1
  subst hargs2
  obtain ⟨v3, vs3, d3, ds3, p3, q3, hargs3, rfl, rfl, h3, r3⟩ := trodAll_cons r2
  subst hargs3
  obtain ⟨rfl, rfl, rfl⟩ := trodAll_nil r3
  obtain rfl : args = #[v0, v1, v2, v3] := by cases args; simp_all
  have k0 := h0
  have lt0 : ∀ x ∈ p0, x.block < W.heap.size := by obtain ⟨m, hm⟩ := k0; exact DataW.trod_lt m _ _ _ hm
  obtain ⟨a0, rfl, hf0⟩ := open_seg (hval 0 23 v0 rfl rfl) h0
  obtain ⟨a1, rfl, rfl, rfl, w1⟩ := open_int Tryd.underlying3 (hval 1 3 v1 rfl rfl) h1
  obtain ⟨a2, rfl, rfl, rfl, w2⟩ := open_int Tryd.underlying3 (hval 2 3 v2 rfl rfl) h2
  obtain ⟨a3, rfl, rfl, rfl, w3⟩ := open_int Tryd.underlying3 (hval 3 3 v3 rfl rfl) h3
  clear hA0 hV0
  have hgs : gs.length = 1 := by
    have := hV
    clear hV hW' hL
    match gs, this with
    | [_], _ => rfl
  match gs, hgs, hV, hW' with
  | [g0], _, hV, hW' =>
    refine (walk a0 hf0 a1 w1 a2 w2 a3 w3 W (table0 hL)).mono fun e W' ⟨he, bel⟩ => ?_
    subst he
    exact ⟨_, rfl, _, _, _, [], _, _, hW', trodAll_mk1 (shut_bool Tryd.underlying4 _), trodAll_cons_mk (Below.trod laidOut (by kernel_rfl) (of_decide_eq_true (by kernel_rfl)) k0 bel lt0) (trodAll_cons_mk (shut_int Tryd.underlying3 w1) (trodAll_cons_mk (shut_int Tryd.underlying3 w2) (trodAll_cons_mk (shut_int Tryd.underlying3 w3) (trodAll_mk0)))), Below.trodVars laidOut bel rowed hV, bel.frame _, fun h => by cases h⟩

def put (cs : Array Value) : Obj → Obj
  | .cells _ t frozen => .cells cs t frozen
  | o => o

/-- a world for the witness: the tables hold what their initialisers lay -/
def laidWorld (w : World) : World := { w with heap := (w.heap.modify 0 (put (([0, 1166650509, 2333301018, 3466261911, 3189058079, 4221339282, 889615109, 1888477064, 3558460437, 2442158232, 1594529039, 444807554, 1779230218, 797264519, 3776954128, 2761298845] : List Int).map (Value.int .u32)).toArray)) }
theorem laid_met (os : Os) : laidMet Tryd.prog Rows.fnExactWrapRow.laid ((laidWorld (World.holding Tryd.prog os ⟨#[], #[], []⟩)).forCall (fun _ _ => 0) ⟨#[], #[.agg #[.int .i64 0, .int .i64 0, .int .i64 0, .string ByteArray.empty], .int .i64 0, .int .i64 0, .int .i64 0], []⟩).memory :=
  laidMet_of_run' 8 (by kernel_rfl) (by kernel_rfl)
theorem reads (os : Os) {H : Type} (enc : TypeId × Value → H) : ∃ places, DataW.whole enc Tryd.prog ((laidWorld (World.holding Tryd.prog os ⟨#[], #[], []⟩)).forCall (fun _ _ => 0) ⟨#[], #[.agg #[.int .i64 0, .int .i64 0, .int .i64 0, .string ByteArray.empty], .int .i64 0, .int .i64 0, .int .i64 0], []⟩).memory Tryd.f3.params.toList Rows.fnExactWrapSpec.vars false #[Value.agg #[.int .i64 0, .int .i64 0, .int .i64 0, .string ByteArray.empty], .int .i64 0, .int .i64 0, .int .i64 0].toList 8 = some ([.agg [.lit (.int .i64 0), .lit (.int .i64 0), .lit (.int .i64 0), .lit (.string [])], .lit (.int .i64 0), .lit (.int .i64 0), .lit (.int .i64 0)], [Rows.laid_loop_example_g00232_impl_fourSteps], places) :=
  ⟨(List.range 16).map (MemPlace.cell 0), by kernel_rfl⟩

set_option maxRecDepth 1000000 in
theorem lifted (os : Os) (started : os.Started) (H : Type) (enc : TypeId × Value → H) (F : Stop.Interp) :
    ReturnsInHanded {} Tryd.checked os 3 .any ((OpenSpec.ofChange Rows.fnExactWrapSpec).preRow enc Tryd.prog Tryd.f3 Rows.fnExactWrapRow.domain false Rows.fnExactWrapRow.laid) (((OpenSpec.ofChange Rows.fnExactWrapSpec).at F).post enc Tryd.prog Tryd.f3 false true false false) := by
  obtain ⟨places, hx⟩ := reads os enc
  refine returnsInHanded_of_row (C := Tryd.checked) (s := OpenSpec.ofChange Rows.fnExactWrapSpec) own started (by kernel_rfl) Tryd.func3
    (witness_row_at (enc := enc) (C := Tryd.checked) false (laidWorld (World.holding Tryd.prog os ⟨#[], #[], []⟩)) #[.agg #[.int .i64 0, .int .i64 0, .int .i64 0, .string ByteArray.empty], .int .i64 0, .int .i64 0, .int .i64 0] rfl (by kernel_rfl) (by kernel_rfl) (by kernel_rfl)
      (OpenSpec.preRow_of_cond 8 hx (by kernel_rfl) (fun k hk => by cases hk) (by kernel_rfl) (laid_met os))) ?_
  intro W base args ds gs before hval hW _ _ _ hL _ _
  exact contract H enc W base args ds gs before hval hW hL

theorem said : Rows.FnExactWrapSaid :=
  OpenClaim.holds_of_cond 3 Tryd.f3 rfl rfl rfl rfl rfl rfl rfl ⟨rfl, rfl, rfl, rfl, rfl⟩ rfl rfl rfl rfl rfl (by kernel_rfl) Tryd.func3 (by kernel_rfl)
    (of_decide_eq_true (by kernel_rfl)) (by unfold Func.isWrapper; first | (rw [if_pos (by decide +kernel)]; kernel_rfl) | (rw [if_neg (by decide +kernel)]; exact ⟨rfl, rfl⟩))
    (fun os started H enc _ F => by rw [OpenClaim.pre_eq_preRow]; exact lifted os started H enc F)

theorem plain (f : FuncId) (fn : Func) (hf : Tryd.pinned.checked.prog.funcNamed "loop.example/g00232/laws.FnExactWrap" = some f) (hfn : Tryd.pinned.checked.prog.funcs[f]? = some fn) :
    false = Tryd.pinned.checked.prog.looks [] ∧ ∀ (j : Nat) t, fn.params[j]? = some t → Tryd.pinned.checked.prog.wantsStandIn t = false := by
  obtain rfl : f = 3 := Option.some.inj ((show Tryd.prog.funcNamed "loop.example/g00232/laws.FnExactWrap" = some 3 by kernel_rfl).symm.trans hf) |>.symm
  obtain rfl : fn = Tryd.f3 := (Option.some.inj (Tryd.func3.symm.trans hfn)).symm
  refine ⟨by kernel_rfl, fun j t ht => ?_⟩
  rw [Tryd.params3] at ht
  rcases (show t = 23 ∨ t = 3 ∨ t = 3 ∨ t = 3 by simpa using Array.mem_of_getElem? ht) with rfl | rfl | rfl | rfl
  · exact (show Tryd.prog.wantsStandIn 23 = false by kernel_rfl)
  · exact (show Tryd.prog.wantsStandIn 3 = false by kernel_rfl)
  · exact (show Tryd.prog.wantsStandIn 3 = false by kernel_rfl)
  · exact (show Tryd.prog.wantsStandIn 3 = false by kernel_rfl)

theorem card : Rows.FnExactWrapCardSaid :=
  Claim7.holds_tied_plain_at .later [] _ _ _ _ said (fun _ h => by cases h) (by kernel_rfl) (fun _ h => by cases h) fnExactWrap_row_tie rfl ⟨rfl, rfl⟩ (by kernel_rfl) rfl plain (by kernel_rfl)
end Go.Proofs.YthkkhmmcgjcedaaDoor.fnExactWrap
