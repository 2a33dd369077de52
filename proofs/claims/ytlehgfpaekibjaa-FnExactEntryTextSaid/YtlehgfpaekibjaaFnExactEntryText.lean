/-
  For every number and entry, laws.FnExactEntryText returns true: impl.EntryText and spec.EntryText answer alike; nothing that was in memory is written.
-/
import Derived.Test.YtlehgfpaekibjaaRows
import Derived.Test.YtlehgfpaekibjaaEntryTextS
import Derived.Test.YtlehgfpaekibjaaEntryTextI
import Derived.Test.YtlehgfpaekibjaaOpenEntry
import Derived.WalkSmall
import Derived.WalkKit
import Derived.ProofKit
import Derived.OpenShut
import Derived.OpenVars
import Derived.Deep.DeepHandedRow
import Derived.Lib.LaidTab
import Derived.Stop.LaidErr
namespace Go.Proofs.Ytlehgfpaekibjaa.fnExactEntryText
open Go.ChangeShapes Go.WideShapes Go.ChangeAt Go.ChangeMaps Go.RowKit

set_option maxRecDepth 1000000 in
set_option maxHeartbeats 1000000 in
theorem walk (i : Int) (_wi : (Lit.int .i64 i).wf = true) (d : EntD) (hf : d.Fits) (w : World) :
    Calls Try.prog 8 #[.int .i64 i, .agg #[.int .i64 d.term, .int .i64 d.kind, .string d.data]] w fun e w' => e = .returned (.bool true) ∧ Below w.heap.size w w' := by
  have HF := hid hf
  have hb0 := below_more (Below.refl w.heap.size w) (.cells #[.int .i64 d.term, .int .i64 d.kind, .string d.data] 42)
  have hx0 : BlockIs (w.alloc (.cells #[.int .i64 d.term, .int .i64 d.kind, .string d.data] 42)) w.heap.size 42 [.int .i64 d.term, .int .i64 d.kind, .string d.data] := heap_alloc_new w _
  obtain ⟨W0, hW0⟩ : ∃ W0, w.alloc (.cells #[.int .i64 d.term, .int .i64 d.kind, .string d.data] 42) = W0 := ⟨_, rfl⟩
  rw [hW0] at hb0 hx0
  have X0 := hid hx0
  have B0 := hid hb0
  have c00 := hx0.cell (j := 0) rfl
  have c01 := hx0.cell (j := 1) rfl
  have c02 := hx0.cell (j := 2) rfl
  clear hb0 hx0 hf
  go_enter Try.func8, Try.ntmps8
  go_wp2_with fail
  refine (szEntry_any d 1048576 (by omega) (by omega) HF.out _).mono ?_
  rintro e w1 ⟨hor, b1⟩
  have X1 := hid (X0.out.on b1 X0.out.lt)
  have B1 := hid (below_via B0.out b1)
  have c10 := X1.out.cell (j := 0) rfl
  have c11 := X1.out.cell (j := 1) rfl
  have c12 := X1.out.cell (j := 2) rfl
  clear b1 X0 B0 c00 c01 c02 hW0
  rcases hor with ⟨hneg, rfl⟩ | ⟨hnn, rfl⟩
  · go_wp2
    go_ret
    exact ⟨rfl, B1.out⟩
  have hd : d.data.size ≤ 1048576 := by omega
  have hpos : ¬ (1048576 : Int) - d.data.size < 0 := by omega
  obtain ⟨T, ok, hok⟩ : ∃ T ok, entryText i d = (T, ok) := ⟨_, _, rfl⟩
  have HOK := hid hok
  clear hok
  go_wp2_with fail
  refine (toEntry_any d _).mono ?_
  rintro e w2 ⟨rfl, b⟩
  have X2 := hid (X1.out.on b X1.out.lt)
  have B2 := hid (below_via B1.out b)
  have c20 := X2.out.cell (j := 0) rfl
  have c21 := X2.out.cell (j := 1) rfl
  have c22 := X2.out.cell (j := 2) rfl
  clear b X1 B1 c10 c11 c12
  have cc := specEntryText_any i d hd w2
  rw [HOK.out] at cc
  dsimp only at cc
  have CC := hid cc
  clear cc
  go_wp2_with fail
  refine Calls.mono CC.out ?_
  rintro e w3 ⟨rfl, b⟩
  have X3 := hid (X2.out.on b X2.out.lt)
  have B3 := hid (below_via B2.out b)
  have c30 := X3.out.cell (j := 0) rfl
  have c31 := X3.out.cell (j := 1) rfl
  have c32 := X3.out.cell (j := 2) rfl
  clear b CC X2 B2 c20 c21 c22
  go_wp2_with fail
  refine (toEntry_any d _).mono ?_
  rintro e w4 ⟨rfl, b⟩
  have X4 := hid (X3.out.on b X3.out.lt)
  have B4 := hid (below_via B3.out b)
  have c40 := X4.out.cell (j := 0) rfl
  have c41 := X4.out.cell (j := 1) rfl
  have c42 := X4.out.cell (j := 2) rfl
  clear b X3 B3 c30 c31 c32
  have cc := implEntryText_any i d w4
  rw [HOK.out] at cc
  dsimp only at cc
  have CC := hid cc
  clear cc
  go_wp2_with fail
  refine Calls.mono CC.out ?_
  rintro e w5 ⟨rfl, b⟩
  have X5 := hid (X4.out.on b X4.out.lt)
  have B5 := hid (below_via B4.out b)
  have c50 := X5.out.cell (j := 0) rfl
  have c51 := X5.out.cell (j := 1) rfl
  have c52 := X5.out.cell (j := 2) rfl
  clear b CC X4 B4 c40 c41 c42
  go_wp2
  go_ret
  exact ⟨rfl, B5.out⟩

theorem own : ownKnob Try.prog.godebug = none := by kernel_rfl
theorem laidOut : laidOutB Try.prog = true := by kernel_rfl
theorem rowed : varsRowed Try.prog Rows.fnExactEntryTextSpec.vars = true := by kernel_rfl
set_option maxRecDepth 1000000 in
theorem contract (H : Type) (enc : TypeId × Value → H) (W : World) (base : Nat) (args : Array Value) (ds gs : List (DataW H)) (before : List MemPlace)
    (hval : ∀ (j : Nat) t v, Try.f8.params[j]? = some t → args[j]? = some v → Value.okWide Try.prog W .any base t v)
    (hW : DataW.Whole enc Try.prog Try.f8.params.toList Rows.fnExactEntryTextSpec.vars false W args.toList ds gs before) (_hL : laidMetH Try.prog Rows.fnExactEntryTextRow.laid W) :
    Calls Try.prog 8 args W fun e W' => ∃ v, e = .returned v ∧ Rows.fnExactEntryTextSpec.post enc Try.prog Try.f8 false true false false W args v W' := by
  have hW' := hW
  obtain ⟨p, q, hA0, hV0, rfl, hfz, hnd⟩ := hW
  have hV : DataW.TrodVars enc Try.prog W (fun _ => true) Rows.fnExactEntryTextSpec.vars gs q := hV0
  have hA : DataW.TrodAll enc Try.prog W 0 (fun _ => true) true Try.f8.params.toList args.toList ds p := hA0
  rw [Try.params8] at hA hval
  obtain ⟨v0, vs0, d0, ds0, p0, q0, hargs0, rfl, rfl, h0, r0⟩ := trodAll_cons hA
  obtain ⟨v1, vs1, d1, ds1, p1, q1, hargs1, rfl, rfl, h1, r1⟩ := trodAll_cons r0
  subst hargs1
  obtain ⟨rfl, rfl, rfl⟩ := trodAll_nil r1
  obtain rfl : args = #[v0, v1] := by cases args; simp_all
  obtain ⟨a0, rfl, rfl, rfl, w0⟩ := open_int Try.underlying3 (hval 0 3 v0 rfl rfl) h0
  have k1 := h1
  have lt1 : ∀ x ∈ p1, x.block < W.heap.size := by obtain ⟨m, hm⟩ := k1; exact DataW.trod_lt m _ _ _ hm
  obtain ⟨a1, rfl, hf1⟩ := open_entry (hval 1 42 v1 rfl rfl) h1
  clear hA0 hV0
  obtain ⟨rfl, rfl⟩ := trodVars_none hV
  refine (walk a0 w0 a1 hf1 W ).mono fun e W' ⟨he, bel⟩ => ?_
  subst he
  exact ⟨_, rfl, _, _, _, [], _, [], hW', trodAll_mk1 (shut_bool Try.underlying4 _), trodAll_cons_mk (shut_int Try.underlying3 w0) (trodAll_cons_mk (Below.trod laidOut (by kernel_rfl) (of_decide_eq_true (by kernel_rfl)) k1 bel lt1) (trodAll_mk0)), rfl, bel.frame _, fun h => by cases h⟩

def put (cs : Array Value) : Obj → Obj
  | .cells _ t frozen => .cells cs t frozen
  | o => o

/-- a world for the witness: the tables hold what their initialisers lay -/
def laidWorld (w : World) : World := { w with heap := w.heap }
theorem laid_met (os : Os) : laidMet Try.prog Rows.fnExactEntryTextRow.laid ((laidWorld (World.holding Try.prog os ⟨#[], #[], []⟩)).forCall (fun _ _ => 0) ⟨#[], #[.int .i64 0, .agg #[.int .i64 0, .int .i64 0, .string ByteArray.empty]], []⟩).memory :=
  laidMet_of_run' 8 (by kernel_rfl) (by kernel_rfl)
theorem reads (os : Os) {H : Type} (enc : TypeId × Value → H) : ∃ places, DataW.whole enc Try.prog ((laidWorld (World.holding Try.prog os ⟨#[], #[], []⟩)).forCall (fun _ _ => 0) ⟨#[], #[.int .i64 0, .agg #[.int .i64 0, .int .i64 0, .string ByteArray.empty]], []⟩).memory Try.f8.params.toList Rows.fnExactEntryTextSpec.vars false #[Value.int .i64 0, .agg #[.int .i64 0, .int .i64 0, .string ByteArray.empty]].toList 8 = some ([.lit (.int .i64 0), .agg [.lit (.int .i64 0), .lit (.int .i64 0), .lit (.string [])]], [], places) :=
  ⟨[], by kernel_rfl⟩

set_option maxRecDepth 1000000 in
theorem lifted (os : Os) (started : os.Started) (H : Type) (enc : TypeId × Value → H) (F : Stop.Interp) :
    ReturnsInHanded {} Try.checked os 8 .any ((OpenSpec.ofChange Rows.fnExactEntryTextSpec).preRow enc Try.prog Try.f8 Rows.fnExactEntryTextRow.domain false Rows.fnExactEntryTextRow.laid) (((OpenSpec.ofChange Rows.fnExactEntryTextSpec).at F).post enc Try.prog Try.f8 false true false false) := by
  obtain ⟨places, hx⟩ := reads os enc
  refine returnsInHanded_of_row (C := Try.checked) (s := OpenSpec.ofChange Rows.fnExactEntryTextSpec) own started (by kernel_rfl) Try.func8
    (witness_row_at (enc := enc) (C := Try.checked) false (laidWorld (World.holding Try.prog os ⟨#[], #[], []⟩)) #[.int .i64 0, .agg #[.int .i64 0, .int .i64 0, .string ByteArray.empty]] rfl (by kernel_rfl) (by kernel_rfl) (by kernel_rfl)
      (OpenSpec.preRow_of_cond 8 hx (by kernel_rfl) (fun k hk => by cases hk) (by kernel_rfl) (laid_met os))) ?_
  intro W base args ds gs before hval hW _ _ _ hL _ _
  exact contract H enc W base args ds gs before hval hW hL

theorem said : Rows.FnExactEntryTextSaid :=
  OpenClaim.holds_of_cond 8 Try.f8 rfl rfl rfl rfl rfl rfl rfl ⟨rfl, rfl, rfl, rfl, rfl⟩ rfl rfl rfl rfl rfl (by kernel_rfl) Try.func8 (by kernel_rfl)
    (of_decide_eq_true (by kernel_rfl)) (by unfold Func.isWrapper; first | (rw [if_pos (by decide +kernel)]; kernel_rfl) | (rw [if_neg (by decide +kernel)]; exact ⟨rfl, rfl⟩))
    (fun os started H enc _ F => by rw [OpenClaim.pre_eq_preRow]; exact lifted os started H enc F)

end Go.Proofs.Ytlehgfpaekibjaa.fnExactEntryText
