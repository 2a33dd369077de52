/-
  For every text, laws.FnExactReadKeep returns true: impl.ReadKeep and spec.ReadKeep answer alike, and the answer owns its memory; nothing that was in memory is written.
-/
import Derived.Test.YtpbcblehebfpkaaRows
import Derived.Test.YtpbcblehebfpkaaJoint22
import Derived.Test.YtpbcblehebfpkaaJoint30
import Derived.Test.YtpbcblehebfpkaaJoint36
import Derived.Test.YtpbcblehebfpkaaJoint39
import Derived.WalkSmall
import Derived.WalkKit
import Derived.ProofKit
import Derived.OpenShut
import Derived.OpenVars
import Derived.Deep.DeepHandedRow
import Derived.Lib.LaidTab
import Derived.Stop.LaidErr
namespace Go.Proofs.Ytpbcblehebfpkaa.fnExactReadKeep
open Go.ChangeShapes Go.WideShapes Go.ChangeAt Go.ChangeMaps Go.RowKit

set_option maxRecDepth 1000000 in
set_option maxHeartbeats 4000000 in
theorem walk (s : ByteArray) (_hs : s.size ≤ maxLen) (w : World) :
    Calls Try.prog 3 #[.string s] w fun e w' => e = .returned (.bool true) ∧ Below w.heap.size w w' := by
  by_cases hbig : (1048576 : Int) < (s.size : Int)
  · go_enter Try.func3, Try.ntmps3
    go_wp2
    go_ret
    exact ⟨rfl, Below.refl _ _⟩
  have hl : s.size ≤ 1048576 := by omega
  have CS' := fun W => specReadKeep_any s hl W
  have CI' := fun W => implReadKeep_any s hl W
  have hsm := rk_small (s := s)
  unfold rkDid at CS' CI'
  obtain ⟨ls, hls⟩ : ∃ x, rkS (readKeep s) = x := ⟨_, rfl⟩
  obtain ⟨li, hli⟩ : ∃ x, rkI (readKeep s) = x := ⟨_, rfl⟩
  obtain ⟨ok, hok⟩ : ∃ x, (readKeep s).isSome = x := ⟨_, rfl⟩
  simp only [hls, hli, hok] at CS' CI' hsm
  have CS := hid CS'
  have CI := hid CI'
  have hn1 := hsm.1
  have hn2 := hsm.2
  have hle : ls.length ≤ 140737488355328 := by omega
  have hle' : li.length ≤ 140737488355328 := by omega
  have hbt : (ok == ok) = true := beq_self_eq_true _
  clear CS' CI' hls hli hok hsm hbig
  go_enter Try.func3, Try.ntmps3
  go_wp2_with fail
  refine (CS.out w).mono ?_
  rintro e w1 ⟨va3, vc3, vb3, vd3, rfl, hk, hb⟩
  have bn := below_more (Below.refl w1.heap.size w1) (.cells #[.slice va3 ls.length vc3, .slice vb3 li.length vd3] 25)
  have nn : BlockIs (w1.alloc (.cells #[.slice va3 ls.length vc3, .slice vb3 li.length vd3] 25)) w1.heap.size 25 [.slice va3 ls.length vc3, .slice vb3 li.length vd3] := heap_alloc_new w1 _
  have R2 := hid (hk.on bn)
  have B2 := hid (below_via hb bn)
  have Y2 := hid nn
  obtain ⟨w2, hw2⟩ : ∃ W, w1.alloc (.cells #[.slice va3 ls.length vc3, .slice vb3 li.length vd3] 25) = W := ⟨_, rfl⟩
  rw [hw2] at R2 B2 Y2
  have HW : Hid (∀ g, (Value.ownBlock (.slice va3 ls.length vc3) = some g ∨ Value.ownBlock (.slice vb3 li.length vd3) = some g) → g < w2.heap.size) := fun g hg => hg.elim (fun q => (R2.out.1.lt g q).2) (fun q => (R2.out.2.lt g q).2)
  have hs2 : w.heap.size ≤ w2.heap.size := B2.out.size
  clear bn nn hk hb
  go_wp2_with fail
  refine (CI.out _).mono ?_
  rintro e w3 ⟨va6, vc6, vb6, vd6, rfl, hk, hb⟩
  have bn := below_more (Below.refl w3.heap.size w3) (.cells #[.slice va6 ls.length vc6, .slice vb6 li.length vd6] 25)
  have nn : BlockIs (w3.alloc (.cells #[.slice va6 ls.length vc6, .slice vb6 li.length vd6] 25)) w3.heap.size 25 [.slice va6 ls.length vc6, .slice vb6 li.length vd6] := heap_alloc_new w3 _
  have bb := below_via hb bn
  have G4 := hid (hk.on bn)
  have Z4 := hid nn
  have R4 := hid (R2.out.on bb)
  have Y4 := hid (Y2.out.on bb Y2.out.lt)
  have B4 := hid (below_via B2.out bb)
  have HG : Hid (∀ g, (Value.ownBlock (.slice va6 ls.length vc6) = some g ∨ Value.ownBlock (.slice vb6 li.length vd6) = some g) → w2.heap.size ≤ g) := fun g hg => hg.elim (fun q => (hk.1.lt g q).1) (fun q => (hk.2.lt g q).1)
  clear hw2
  obtain ⟨w4, hw4⟩ : ∃ W, w3.alloc (.cells #[.slice va6 ls.length vc6, .slice vb6 li.length vd6] 25) = W := ⟨_, rfl⟩
  rw [hw4] at G4 Z4 R4 Y4 B4
  clear bn nn bb hk hb R2 Y2 B2
  have y0_4 := Y4.out.cell (j := 0) rfl
  have y1_4 := Y4.out.cell (j := 1) rfl
  have z0_4 := Z4.out.cell (j := 0) rfl
  have z1_4 := Z4.out.cell (j := 1) rfl
  go_wp2_with fail
  refine (eqKeep_same va6 va3 vb6 vb3 ls li vc6 vc3 vd6 vd3 hle hle' _ (sessionR_at G4.out.1) (sessionR_at R4.out.1) (itemR_at G4.out.2) (itemR_at R4.out.2)).mono ?_
  rintro e w5 ⟨rfl, b5⟩
  have B5 := hid (below_via B4.out b5)
  have Y5 := hid (Y4.out.on b5 Y4.out.lt)
  have Z5 := hid (Z4.out.on b5 Z4.out.lt)
  have R5 := hid (R4.out.on b5)
  have G5 := hid (G4.out.on b5)
  clear b5 hw4 B4 Y4 Z4 R4 G4 y0_4 y1_4 z0_4 z1_4
  have y0_5 := Y5.out.cell (j := 0) rfl
  have y1_5 := Y5.out.cell (j := 1) rfl
  have z0_5 := Z5.out.cell (j := 0) rfl
  have z1_5 := Z5.out.cell (j := 1) rfl
  go_wp2_with fail
  refine (markKeep_own w2.heap.size va6 vb6 vc6 vd6 ls li (by omega) (by omega) _ G5.out).mono ?_
  rintro e w6 ⟨rfl, ⟨ms, mi⟩, mk⟩
  have B6 := hid (mk.2.2 w hs2 B5.out)
  have Y6 := hid (mk.box Y5.out G5.out.1 G5.out.2 (by decide) (by decide))
  have Z6 := hid (mk.box Z5.out G5.out.1 G5.out.2 (by decide) (by decide))
  have R6 := hid (mk.rows R5.out (fun g hg => by have h1 := HW.out g hg; constructor <;> (intro e; have h2 := HG.out g (by first | exact Or.inl e | exact Or.inr e); omega)))
  have MS6 := hid ms
  have MI6 := hid mi
  clear ms mi mk B5 Y5 Z5 R5 G5 y0_5 y1_5 z0_5 z1_5
  have y0_6 := Y6.out.cell (j := 0) rfl
  have y1_6 := Y6.out.cell (j := 1) rfl
  have z0_6 := Z6.out.cell (j := 0) rfl
  have z1_6 := Z6.out.cell (j := 1) rfl
  have hmk : ¬ ((1 + 3 * ls.length + 3 * li.length : Nat) : Int) < 0 := by omega
  have HS := hid (fun W (h1 : SessionsAt W va6 (marksSession 1 ls.length)) (h2 : ItemsAt W vb6 (marksItem (1 + 3 * ls.length) li.length)) => heldKeep_own va6 vb6 ls.length li.length vc6 vd6 (by omega) (by omega) W h1 h2)
  obtain ⟨K2, hK2⟩ : ∃ K : Nat, 1 + 3 * ls.length + 3 * li.length = K := ⟨_, rfl⟩
  rw [hK2] at hmk HS ⊢
  clear hK2
  go_wp2_with fail
  refine (HS.out _ (sessionR_at (l := marksSession 1 ls.length) (by rw [marksSession_length]; exact MS6.out)) (itemR_at (l := marksItem (1 + 3 * ls.length) li.length) (by rw [marksItem_length]; exact MI6.out))).mono ?_
  rintro e w7 ⟨rfl, b7⟩
  have B7 := hid (below_via B6.out b7)
  have Y7 := hid (Y6.out.on b7 Y6.out.lt)
  have Z7 := hid (Z6.out.on b7 Z6.out.lt)
  have R7 := hid (R6.out.on b7)
  have MS7 := hid (row_onK MS6.out b7)
  have MI7 := hid (row_onK MI6.out b7)
  clear b7 B6 Y6 Z6 R6 MS6 MI6 y0_6 y1_6 z0_6 z1_6
  have y0_7 := Y7.out.cell (j := 0) rfl
  have y1_7 := Y7.out.cell (j := 1) rfl
  have z0_7 := Z7.out.cell (j := 0) rfl
  have z1_7 := Z7.out.cell (j := 1) rfl
  go_wp2_with fail
  refine (CI.out _).mono ?_
  rintro e w8 ⟨va9, vc9, vb9, vd9, rfl, hk, hb⟩
  have bn := below_more (Below.refl w8.heap.size w8) (.cells #[.slice va9 ls.length vc9, .slice vb9 li.length vd9] 25)
  have nn : BlockIs (w8.alloc (.cells #[.slice va9 ls.length vc9, .slice vb9 li.length vd9] 25)) w8.heap.size 25 [.slice va9 ls.length vc9, .slice vb9 li.length vd9] := heap_alloc_new w8 _
  have bb := below_via hb bn
  have H9 := hid (hk.on bn)
  have V9 := hid nn
  have B9 := hid (below_via B7.out bb)
  have Y9 := hid (Y7.out.on bb Y7.out.lt)
  have Z9 := hid (Z7.out.on bb Z7.out.lt)
  have R9 := hid (R7.out.on bb)
  have MS9 := hid (row_onK MS7.out bb)
  have MI9 := hid (row_onK MI7.out bb)
  obtain ⟨w9, hw9⟩ : ∃ W, w8.alloc (.cells #[.slice va9 ls.length vc9, .slice vb9 li.length vd9] 25) = W := ⟨_, rfl⟩
  rw [hw9] at H9 V9 B9 Y9 Z9 R9 MS9 MI9
  clear bn nn bb hk hb B7 Y7 Z7 R7 MS7 MI7 y0_7 y1_7 z0_7 z1_7
  have y0_9 := Y9.out.cell (j := 0) rfl
  have y1_9 := Y9.out.cell (j := 1) rfl
  have z0_9 := Z9.out.cell (j := 0) rfl
  have z1_9 := Z9.out.cell (j := 1) rfl
  have v0_9 := V9.out.cell (j := 0) rfl
  have v1_9 := V9.out.cell (j := 1) rfl
  go_wp2_with fail
  refine (eqKeep_same va9 va3 vb9 vb3 ls li vc9 vc3 vd9 vd3 hle hle' _ (sessionR_at H9.out.1) (sessionR_at R9.out.1) (itemR_at H9.out.2) (itemR_at R9.out.2)).mono ?_
  rintro e w10 ⟨rfl, b10⟩
  have B10 := hid (below_via B9.out b10)
  have Y10 := hid (Y9.out.on b10 Y9.out.lt)
  have Z10 := hid (Z9.out.on b10 Z9.out.lt)
  have R10 := hid (R9.out.on b10)
  have MS10 := hid (row_onK MS9.out b10)
  have MI10 := hid (row_onK MI9.out b10)
  clear b10 hw9 H9 V9 B9 Y9 Z9 R9 MS9 MI9 y0_9 y1_9 z0_9 z1_9 v0_9 v1_9
  have y0_10 := Y10.out.cell (j := 0) rfl
  have y1_10 := Y10.out.cell (j := 1) rfl
  have z0_10 := Z10.out.cell (j := 0) rfl
  have z1_10 := Z10.out.cell (j := 1) rfl
  go_wp2_with fail
  refine (HS.out _ (sessionR_at (l := marksSession 1 ls.length) (by rw [marksSession_length]; exact MS10.out)) (itemR_at (l := marksItem (1 + 3 * ls.length) li.length) (by rw [marksItem_length]; exact MI10.out))).mono ?_
  rintro e w11 ⟨rfl, b11⟩
  have B11 := hid (below_via B10.out b11)
  clear b11
  go_wp2
  go_ret
  exact ⟨rfl, B11.out⟩

theorem own : ownKnob Try.prog.godebug = none := by kernel_rfl
theorem laidOut : laidOutB Try.prog = true := by kernel_rfl
theorem rowed : varsRowed Try.prog Rows.fnExactReadKeepSpec.vars = true := by kernel_rfl
set_option maxRecDepth 1000000 in
theorem contract (H : Type) (enc : TypeId × Value → H) (W : World) (base : Nat) (args : Array Value) (ds gs : List (DataW H)) (before : List MemPlace)
    (hval : ∀ (j : Nat) t v, Try.f3.params[j]? = some t → args[j]? = some v → Value.okWide Try.prog W .any base t v)
    (hW : DataW.Whole enc Try.prog Try.f3.params.toList Rows.fnExactReadKeepSpec.vars false W args.toList ds gs before) (_hL : laidMetH Try.prog Rows.fnExactReadKeepRow.laid W) :
    Calls Try.prog 3 args W fun e W' => ∃ v, e = .returned v ∧ Rows.fnExactReadKeepSpec.post enc Try.prog Try.f3 false true false false W args v W' := by
  have hW' := hW
  obtain ⟨p, q, hA0, hV0, rfl, hfz, hnd⟩ := hW
  have hV : DataW.TrodVars enc Try.prog W (fun _ => true) Rows.fnExactReadKeepSpec.vars gs q := hV0
  have hA : DataW.TrodAll enc Try.prog W 0 (fun _ => true) true Try.f3.params.toList args.toList ds p := hA0
  rw [Try.params3] at hA hval
  obtain ⟨v0, vs0, d0, ds0, p0, q0, hargs0, rfl, rfl, h0, r0⟩ := trodAll_cons hA
  obtain ⟨rfl, rfl, rfl⟩ := trodAll_nil r0
  obtain rfl : args = #[v0] := by cases args; simp_all
  obtain ⟨a0, rfl, rfl, rfl, w0⟩ := open_string Try.underlying9 (hval 0 9 v0 rfl rfl) h0
  clear hA0 hV0
  obtain ⟨rfl, rfl⟩ := trodVars_none hV
  refine (walk a0 w0 W ).mono fun e W' ⟨he, bel⟩ => ?_
  subst he
  exact ⟨_, rfl, _, _, _, [], _, [], hW', trodAll_mk1 (shut_bool Try.underlying4 _), trodAll_cons_mk (shut_string Try.underlying9 w0) (trodAll_mk0), rfl, bel.frame _, fun h => by cases h⟩

def put (cs : Array Value) : Obj → Obj
  | .cells _ t frozen => .cells cs t frozen
  | o => o

/-- a world for the witness: the tables hold what their initialisers lay -/
def laidWorld (w : World) : World := { w with heap := w.heap }
theorem laid_met (os : Os) : laidMet Try.prog Rows.fnExactReadKeepRow.laid ((laidWorld (World.holding Try.prog os ⟨#[], #[], []⟩)).forCall (fun _ _ => 0) ⟨#[], #[.string ByteArray.empty], []⟩).memory :=
  laidMet_of_run' 8 (by kernel_rfl) (by kernel_rfl)
theorem reads (os : Os) {H : Type} (enc : TypeId × Value → H) : ∃ places, DataW.whole enc Try.prog ((laidWorld (World.holding Try.prog os ⟨#[], #[], []⟩)).forCall (fun _ _ => 0) ⟨#[], #[.string ByteArray.empty], []⟩).memory Try.f3.params.toList Rows.fnExactReadKeepSpec.vars false #[Value.string ByteArray.empty].toList 8 = some ([.lit (.string [])], [], places) :=
  ⟨[], by kernel_rfl⟩

set_option maxRecDepth 1000000 in
theorem lifted (os : Os) (started : os.Started) (H : Type) (enc : TypeId × Value → H) (F : Stop.Interp) :
    ReturnsInHanded {} Try.checked os 3 .any ((OpenSpec.ofChange Rows.fnExactReadKeepSpec).preRow enc Try.prog Try.f3 Rows.fnExactReadKeepRow.domain false Rows.fnExactReadKeepRow.laid) (((OpenSpec.ofChange Rows.fnExactReadKeepSpec).at F).post enc Try.prog Try.f3 false true false false) := by
  obtain ⟨places, hx⟩ := reads os enc
  refine returnsInHanded_of_row (C := Try.checked) (s := OpenSpec.ofChange Rows.fnExactReadKeepSpec) own started (by kernel_rfl) Try.func3
    (witness_row_at (enc := enc) (C := Try.checked) false (laidWorld (World.holding Try.prog os ⟨#[], #[], []⟩)) #[.string ByteArray.empty] rfl (by kernel_rfl) (by kernel_rfl) (by kernel_rfl)
      (OpenSpec.preRow_of_cond 8 hx (by kernel_rfl) (fun k hk => by cases hk) (by kernel_rfl) (laid_met os))) ?_
  intro W base args ds gs before hval hW _ _ _ hL _ _
  exact contract H enc W base args ds gs before hval hW hL

theorem said : Rows.FnExactReadKeepSaid :=
  OpenClaim.holds_of_cond 3 Try.f3 rfl rfl rfl rfl rfl rfl rfl ⟨rfl, rfl, rfl, rfl, rfl⟩ rfl rfl rfl rfl rfl (by kernel_rfl) Try.func3 (by kernel_rfl)
    (of_decide_eq_true (by kernel_rfl)) (by unfold Func.isWrapper; first | (rw [if_pos (by decide +kernel)]; kernel_rfl) | (rw [if_neg (by decide +kernel)]; exact ⟨rfl, rfl⟩))
    (fun os started H enc _ F => by rw [OpenClaim.pre_eq_preRow]; exact lifted os started H enc F)

end Go.Proofs.Ytpbcblehebfpkaa.fnExactReadKeep
