/-
  For every argument, laws.FnExactLogPut returns true: impl.LogPut and spec.LogPut answer alike, no argument is written, the answer owns its memory; nothing that was in memory is written.
-/
import Derived.Test.YtjkgjnpifdafaaaRows
import Derived.Test.YtjkgjnpifdafaaaOpenLog
import Derived.Test.YtjkgjnpifdafaaaOpenEntry
import Derived.Test.YtjkgjnpifdafaaaLogPutS
import Derived.Test.YtjkgjnpifdafaaaLogPutI
import Derived.Deep.RegionWith
import Derived.Test.YtjkgjnpifdafaaaOwnEnt
import Derived.WalkSmall
import Derived.WalkKit
import Derived.ProofKit
import Derived.OpenShut
import Derived.OpenVars
import Derived.Deep.DeepHandedRow
import Derived.Lib.LaidTab
import Derived.Stop.LaidErr
namespace Go.Proofs.Ytjkgjnpifdafaaa.fnExactLogPut
open Go.ChangeShapes Go.WideShapes Go.ChangeAt Go.ChangeMaps Go.RowKit

theorem putAns_len (s t : Int) (l : List EntD) (i : Int) (e : EntD) : (putAns s t l i e).1.2.2.length ≤ 60 := by
  unfold putAns
  split
  · rename_i h
    exact (logOk_iff.1 h.2.2).2.2.1
  · simp
set_option maxRecDepth 1000000 in
set_option maxHeartbeats 8000000 in
theorem walk (s t : Int) (hs : -9223372036854775808 ≤ s ∧ s ≤ 9223372036854775807) (_ht : -9223372036854775808 ≤ t ∧ t ≤ 9223372036854775807) (ao : Option Addr) (l : List EntD) (cap : Nat) (hl : l.length ≤ maxLen) (hf : EntsFit l) (i : Int) (_hwi : (Lit.int .i64 i).wf = true) (d : EntD) (hdf : d.Fits) (w : World) (ha : EntsAt w ao l) :
    Calls Try.prog 3 #[.agg #[.int .i64 s, .int .i64 t, .slice ao l.length cap], .int .i64 i, .agg #[.int .i64 d.term, .int .i64 d.kind, .string d.data]] w fun e w' => e = .returned (.bool true) ∧ Below w.heap.size w w' := by
  have HA := hid ha
  have hx0 : BlockIs (w.alloc (.cells #[.int .i64 s, .int .i64 t, .slice ao l.length cap] 24)) w.heap.size 24 [.int .i64 s, .int .i64 t, .slice ao l.length cap] := heap_alloc_new w _
  have X_p := hid (hx0.on (below_more (Below.refl _ _) (.cells #[.int .i64 d.term, .int .i64 d.kind, .string d.data] 26)) hx0.lt)
  have hx1 : BlockIs ((w.alloc (.cells #[.int .i64 s, .int .i64 t, .slice ao l.length cap] 24)).alloc (.cells #[.int .i64 d.term, .int .i64 d.kind, .string d.data] 26)) (w.heap.size + 1) 26 [.int .i64 d.term, .int .i64 d.kind, .string d.data] := by
    have := heap_alloc_new (w.alloc (.cells #[.int .i64 s, .int .i64 t, .slice ao l.length cap] 24)) (.cells #[.int .i64 d.term, .int .i64 d.kind, .string d.data] 26)
    rw [show (w.alloc (.cells #[.int .i64 s, .int .i64 t, .slice ao l.length cap] 24)).heap.size = w.heap.size + 1 by simp [World.alloc, -World.alloc_eq]] at this
    exact this
  have X_e := hid hx1
  have B := hid (below_more (below_more (Below.refl w.heap.size w) (.cells #[.int .i64 s, .int .i64 t, .slice ao l.length cap] 24)) (.cells #[.int .i64 d.term, .int .i64 d.kind, .string d.data] 26))
  have O0 := hid hx1.lt
  clear ha hx0 hx1
  go_enter Try.func3, Try.ntmps3
  go_wp2_with fail
  refine Calls.mono (szLog_any s t ao l cap 1048576 (by omega) (by omega) (by unfold maxLen at hl; omega) hf _ (HA.out.on B.out)) ?_
  rintro e w1 ⟨hor, b1⟩
  have O1 := hid b1.size
  have X_p_1 := hid (X_p.out.on b1 X_p.out.lt)
  have X_e_1 := hid (X_e.out.on b1 X_e.out.lt)
  have B_1 := hid (below_via B.out b1)
  clear b1 X_p X_e B
  have cX_p0_1 := X_p_1.out.cell (j := 0) rfl
  have cX_p1_1 := X_p_1.out.cell (j := 1) rfl
  have cX_p2_1 := X_p_1.out.cell (j := 2) rfl
  have cX_e0_1 := X_e_1.out.cell (j := 0) rfl
  have cX_e1_1 := X_e_1.out.cell (j := 1) rfl
  have cX_e2_1 := X_e_1.out.cell (j := 2) rfl
  rcases hor with ⟨hneg, rfl⟩ | ⟨hnn, rfl⟩
  · go_wp2
    go_ret
    exact ⟨rfl, B_1.out⟩
  have hl2 := (entsSmall hnn).1
  have HSM := hid (entsSmall hnn).2
  clear hf hl
  go_wp2_with fail
  refine Calls.mono (szEntry_any d (1048576 - l.length - entBulk l) hnn (by have := entBulk_nonneg l; omega) hdf _) ?_
  rintro e w2 ⟨hor, b2⟩
  have O2 := hid b2.size
  have X_p_2 := hid (X_p_1.out.on b2 X_p_1.out.lt)
  have X_e_2 := hid (X_e_1.out.on b2 X_e_1.out.lt)
  have B_2 := hid (below_via B_1.out b2)
  clear b2 X_p_1 X_e_1 B_1 cX_p0_1 cX_p1_1 cX_p2_1 cX_e0_1 cX_e1_1 cX_e2_1
  have cX_p0_2 := X_p_2.out.cell (j := 0) rfl
  have cX_p1_2 := X_p_2.out.cell (j := 1) rfl
  have cX_p2_2 := X_p_2.out.cell (j := 2) rfl
  have cX_e0_2 := X_e_2.out.cell (j := 0) rfl
  have cX_e1_2 := X_e_2.out.cell (j := 1) rfl
  have cX_e2_2 := X_e_2.out.cell (j := 2) rfl
  rcases hor with ⟨hneg, rfl⟩ | ⟨hnn2, rfl⟩
  · go_wp2
    go_ret
    exact ⟨rfl, B_2.out⟩
  have hd2 : d.data.size ≤ 1048576 := by have := entBulk_nonneg l; omega
  have hnn3 : ¬ (1048576 : Int) - l.length - entBulk l - d.data.size < 0 := by omega
  obtain ⟨S, T, AN, ok, hF⟩ : ∃ S T AN ok, putAns s t l i d = ((S, T, AN), ok) := ⟨_, _, _, _, rfl⟩
  have hA2 : AN.length ≤ 1048576 := by have := putAns_len s t l i d; rw [hF] at this; dsimp only at this; omega
  go_wp2
  refine wp_region_each (N := 114) (by kernel_rfl) (by kernel_rfl) rfl (by kernel_rfl) (fun W => Below w2.heap.size w2 W) (fun j v u W => match j with | 0 => v = .agg #[.int .i64 s, .int .i64 t, .slice ao l.length cap] | 1 => ∃ va vc, v = .agg #[.int .i64 s, .int .i64 t, .slice va l.length vc] ∧ l.length ≤ vc ∧ OwnAt W 35 (entCells l) l.length va w2.heap.size W.heap.size | 2 => v = .int .i64 i | 3 => v = .agg #[.int .i64 d.term, .int .i64 d.kind, .string d.data] | 4 => v = .agg #[.int .i64 d.term, .int .i64 d.kind, .string d.data] | 5 => ∃ va vc, v = .tuple #[.agg #[.int .i64 S, .int .i64 T, .slice va AN.length vc], .bool ok] ∧ OwnAt W 35 (entCells AN) AN.length va w2.heap.size W.heap.size | 6 => ∃ va vc, v = .tuple #[.agg #[.int .i64 S, .int .i64 T, .slice va AN.length vc], .bool ok] ∧ OwnAt W 35 (entCells AN) AN.length va w2.heap.size W.heap.size | 7 => ∃ va vc, v = .agg #[.int .i64 S, .int .i64 T, .slice va AN.length vc] ∧ OwnAt W 35 (entCells AN) AN.length va w2.heap.size W.heap.size | 8 => v = .bool ok | 9 => ∃ X, v = .pointer (some ⟨X, 0, none⟩) ∧ w2.heap.size ≤ X ∧ BlockIs W X 31 [.int .i64 0, .int .i64 0, .slice none 0 0] | 10 => ∃ X va vc, u = .pointer (some ⟨X, 0, none⟩) ∧ w2.heap.size ≤ X ∧ BlockIs W X 31 [.int .i64 S, .int .i64 T, .slice va AN.length vc] ∧ OwnAt W 35 (entCells AN) AN.length va w2.heap.size W.heap.size | 11 => v = .bool ok | _ => True) (fun i => if i = 10 then 9 else i) (fun j i => decide ((j, i) ∈ ([(9, 10)] : List (Nat × Nat)))) (fun i x y => x.heap.size ≤ y.heap.size ∧ ∀ g ty cs, BlockIs x g ty cs → (i = 10 → ty ≠ 31) → BlockIs y g ty cs) (fun i => if i = 10 then 8 else 0) (by kernel_rfl) (fun i hi => by have : 12 ≤ i := hi; simp; omega) ?_ (below_drewN (Below.refl _ _) 1) ?_ ?_
  · intro i j v u x y hij hdd hwt hxy hg
    match j, hg with
    | 0, hg => exact hg
    | 1, hg =>
      obtain ⟨va, vc, e1, e2, e3⟩ := hg
      exact ⟨va, vc, e1, e2, e3.ext hxy.1 fun g r h => hxy.2 _ _ _ h (fun _ => by decide)⟩
    | 2, hg => exact hg
    | 3, hg => exact hg
    | 4, hg => exact hg
    | 5, hg =>
      obtain ⟨va, vc, e1, e3⟩ := hg
      exact ⟨va, vc, e1, e3.ext hxy.1 fun g r h => hxy.2 _ _ _ h (fun _ => by decide)⟩
    | 6, hg =>
      obtain ⟨va, vc, e1, e3⟩ := hg
      exact ⟨va, vc, e1, e3.ext hxy.1 fun g r h => hxy.2 _ _ _ h (fun _ => by decide)⟩
    | 7, hg =>
      obtain ⟨va, vc, e1, e3⟩ := hg
      exact ⟨va, vc, e1, e3.ext hxy.1 fun g r h => hxy.2 _ _ _ h (fun _ => by decide)⟩
    | 8, hg => exact hg
    | 9, hg =>
      obtain ⟨X, e1, e2, e3⟩ := hg
      simp at hdd
      exact ⟨X, e1, e2, hxy.2 _ _ _ e3 (fun e => absurd e hdd)⟩
    | 10, hg =>
      obtain ⟨X, va, vc, e1, e2, e4, e5⟩ := hg
      exact ⟨X, va, vc, e1, e2, hxy.2 _ _ _ e4 (fun e => absurd e hij), e5.ext hxy.1 fun g r h => hxy.2 _ _ _ h (fun _ => by decide)⟩
    | 11, hg => exact hg
    | n + 12, _ => exact trivial
  · refine ⟨?_, ?_, ?_, ?_, ?_, ?_, ?_, ?_, ?_, ?_, ?_, ?_, trivial⟩
    · intro A W hC hg hb
      have h3 : A.eval (.tmp 3) = .pointer (some ⟨w.heap.size, 0, none⟩) := hb 3 (base_of (by kernel_rfl))
      have hc0 := (X_p_2.out.on hC X_p_2.out.lt).cell (j := 0) rfl
      have hc1 := (X_p_2.out.on hC X_p_2.out.lt).cell (j := 1) rfl
      have hc2 := (X_p_2.out.on hC X_p_2.out.lt).cell (j := 2) rfl
      exact does_value (v := .agg #[.int .i64 s, .int .i64 t, .slice ao l.length cap]) (w' := W) (by simp only [execOp, h3]; simp [go_sem, hc0, hc1, hc2]) ⟨rfl, hC, Nat.le_refl _, fun _ _ _ h _ => h⟩
    · intro A W hC hg hb
      have h29 : A.eval (.tmp 29) = .agg #[.int .i64 s, .int .i64 t, .slice ao l.length cap] := hg 0 29 (by decide) rfl (by simp [Op.operands, Call.operands]) (by kernel_rfl) rfl
      simp [go_sem] at h29
      refine does_enter (f := 12) (args := #[.agg #[.int .i64 s, .int .i64 t, .slice ao l.length cap]]) (w' := W) (by simp [go_sem, h29]) ?_
      refine (toLog_o s t ao l cap hl2 W (HA.out.on (below_via B_2.out hC))).mono ?_
      rintro e W' ⟨va, vc, rfl, hvc, ho, hb'⟩
      exact ⟨_, rfl, ⟨va, vc, rfl, hvc, ho.down hC.size (Nat.le_refl _)⟩, below_via hC hb', hb'.size, fun _ _ _ h _ => h.on hb' h.lt⟩
    · intro A W hC hg hb
      have h1 : A.eval (.tmp 1) = .int .i64 i := hb 1 (base_of (by kernel_rfl))
      exact does_value (v := .int .i64 i) (w' := W) (by simp only [execOp, h1]; simp [go_sem]) ⟨rfl, hC, Nat.le_refl _, fun _ _ _ h _ => h⟩
    · intro A W hC hg hb
      have h5 : A.eval (.tmp 5) = .pointer (some ⟨w.heap.size + 1, 0, none⟩) := hb 5 (base_of (by kernel_rfl))
      have hc0 := (X_e_2.out.on hC X_e_2.out.lt).cell (j := 0) rfl
      have hc1 := (X_e_2.out.on hC X_e_2.out.lt).cell (j := 1) rfl
      have hc2 := (X_e_2.out.on hC X_e_2.out.lt).cell (j := 2) rfl
      exact does_value (v := .agg #[.int .i64 d.term, .int .i64 d.kind, .string d.data]) (w' := W) (by simp only [execOp, h5]; simp [go_sem, hc0, hc1, hc2]) ⟨rfl, hC, Nat.le_refl _, fun _ _ _ h _ => h⟩
    · intro A W hC hg hb
      have h32 : A.eval (.tmp 32) = .agg #[.int .i64 d.term, .int .i64 d.kind, .string d.data] := hg 3 32 (by decide) rfl (by simp [Op.operands, Call.operands]) (by kernel_rfl) rfl
      simp [go_sem] at h32
      refine does_enter (f := 13) (args := #[.agg #[.int .i64 d.term, .int .i64 d.kind, .string d.data]]) (w' := W) (by simp [go_sem, h32]) ?_
      refine (toEntry_any d W).mono ?_
      rintro e W' ⟨rfl, hb'⟩
      exact ⟨_, rfl, rfl, below_via hC hb', hb'.size, fun _ _ _ h _ => h.on hb' h.lt⟩
    · intro A W hC hg hb
      have g1 := hg 1 30 (by decide) rfl (by simp [Op.operands, Call.operands]) (by kernel_rfl) rfl
      have h31 : A.eval (.tmp 31) = .int .i64 i := hg 2 31 (by decide) rfl (by simp [Op.operands, Call.operands]) (by kernel_rfl) rfl
      have h33 : A.eval (.tmp 33) = .agg #[.int .i64 d.term, .int .i64 d.kind, .string d.data] := hg 4 33 (by decide) rfl (by simp [Op.operands, Call.operands]) (by kernel_rfl) rfl
      obtain ⟨vy, vx, h30, hvx, hox⟩ := g1
      simp [go_sem] at h30 h31 h33
      refine does_enter (f := 11) (args := #[.agg #[.int .i64 s, .int .i64 t, .slice vy l.length vx], .int .i64 i, .agg #[.int .i64 d.term, .int .i64 d.kind, .string d.data]]) (w' := W) (by simp [go_sem, h30, h31, h33]) ?_
      have CQ := specLogPut_any s t i d _ l vx hl2 HSM.out hd2 hvx W hox.ents
      rw [hF] at CQ
      refine Calls.mono CQ ?_
      rintro e W' ⟨va, vc, rfl, _, ho, hb'⟩
      exact ⟨_, rfl, ⟨va, vc, rfl, ho.down hC.size (Nat.le_refl _)⟩, below_via hC hb', hb'.size, fun _ _ _ h _ => h.on hb' h.lt⟩
    · intro A W hC hg hb
      have g5 := hg 5 34 (by decide) rfl (by simp [Op.operands]) (by kernel_rfl) rfl
      obtain ⟨va, vc, h34, ho⟩ := g5
      exact does_value (v := .tuple #[.agg #[.int .i64 S, .int .i64 T, .slice va AN.length vc], .bool ok]) (w' := W) (by simp only [execOp, h34]; simp [go_sem]) ⟨⟨va, vc, rfl, ho⟩, hC, Nat.le_refl _, fun _ _ _ h _ => h⟩
    · intro A W hC hg hb
      have g6 := hg 6 28 (by decide) rfl (by simp [Op.operands]) (by kernel_rfl) rfl
      obtain ⟨va, vc, h28, ho⟩ := g6
      exact does_value (v := .agg #[.int .i64 S, .int .i64 T, .slice va AN.length vc]) (w' := W) (by simp only [execOp, h28]; simp [go_sem]) ⟨⟨va, vc, rfl, ho⟩, hC, Nat.le_refl _, fun _ _ _ h _ => h⟩
    · intro A W hC hg hb
      have g6 := hg 6 28 (by decide) rfl (by simp [Op.operands]) (by kernel_rfl) rfl
      obtain ⟨va, vc, h28, _⟩ := g6
      exact does_value (v := .bool ok) (w' := W) (by simp only [execOp, h28]; simp [go_sem]) ⟨rfl, hC, Nat.le_refl _, fun _ _ _ h _ => h⟩
    · intro A W hC hg hb
      exact does_value (v := .pointer (some ⟨W.heap.size, 0, none⟩)) (w' := W.alloc (.cells #[.int .i64 0, .int .i64 0, .slice none 0 0] 31)) (by simp [execOp, go_sem]) ⟨⟨_, rfl, hC.size, heap_alloc_new W _⟩, below_more hC _, (below_more (Below.refl _ W) _).size, fun _ _ _ h _ => h.on (below_more (Below.refl _ W) _) h.lt⟩
    · intro A W hC hg hb
      have g9 := hg 9 8 (by decide) rfl (by simp [Op.operands]) (by kernel_rfl) rfl
      have g7 := hg 7 35 (by decide) rfl (by simp [Op.operands]) (by kernel_rfl) rfl
      obtain ⟨X, h8, hlo, hX⟩ := g9
      obtain ⟨va, vc, h35, ho⟩ := g7
      have c0 := hX.cell (j := 0) rfl
      have c1 := hX.cell (j := 1) rfl
      have c2 := hX.cell (j := 2) rfl
      have f0 := hX.thaw 0
      have f1 := hX.thaw 1
      have f2 := hX.thaw 2
      have hX3 := ((hX.set 0 (.int .i64 S)).set 1 (.int .i64 T)).set 2 (.slice va AN.length vc)
      have far : ∀ q ty cs, BlockIs W q ty cs → ty ≠ 31 → BlockIs (((W.setCell ⟨X, 0, none⟩ (.int .i64 S)).setCell ⟨X, 1, none⟩ (.int .i64 T)).setCell ⟨X, 2, none⟩ (.slice va AN.length vc)) q ty cs := fun q ty cs hq hne => by
        have hqX : X ≠ q := by intro e; subst e; exact hne (block_one hq hX).1
        exact ((hq.far hqX _).far hqX _).far hqX _
      refine does_skip (w' := ((W.setCell ⟨X, 0, none⟩ (.int .i64 S)).setCell ⟨X, 1, none⟩ (.int .i64 T)).setCell ⟨X, 2, none⟩ (.slice va AN.length vc)) (by simp only [execOp, h8, h35]; simp [go_sem, c0, c1, c2, f0, f1, f2]) ⟨⟨X, va, vc, h8, hlo, hX3, ?_⟩, ((hC.setCell hlo _).setCell hlo _).setCell hlo _, ?_, fun q ty cs hq hne => far q ty cs hq (hne rfl)⟩
      · exact ho.ext (by simp [World.size_setCell]) (fun g r h => far g _ _ h (by decide))
      · simp [World.size_setCell]
    · intro A W hC hg hb
      have h36 : A.eval (.tmp 36) = .bool ok := hg 8 36 (by decide) rfl (by simp [Op.operands]) (by kernel_rfl) rfl
      exact does_value (v := .bool ok) (w' := W) (by simp only [execOp, h36]; simp [go_sem]) ⟨rfl, hC, Nat.le_refl _, fun _ _ _ h _ => h⟩
  intro vs w3 hC hg
  obtain ⟨B3, v3, c3, hu, hlo, hX, ho⟩ := hg 10 (by decide) (fun k => by simp)
  have hok := hg 11 (by decide) (fun k => by simp)
  change vs 9 = _ at hu
  change vs 11 = _ at hok
  clear hg
  change Exit.then _ _ _ (laidBy _ vs _ 12 _) w3
  simp only [laidBy, if_true, dstAt, List.getElem?_toArray, List.getElem?_cons_succ, List.getElem?_cons_zero, Option.bind_some]
  simp only [Act.put, List.setIfInBounds_toArray, List.set_cons_succ, List.set_cons_zero]
  rw [hu, hok]
  clear hu hok
  have O3 := hid hC.size
  have O3c := hid hX.lt
  have O3d := hid hlo
  have X_p_3 := hid (X_p_2.out.on hC X_p_2.out.lt)
  have X_e_3 := hid (X_e_2.out.on hC X_e_2.out.lt)
  have B_3 := hid (below_via B_2.out hC)
  have X_w_3 := hid hX
  have R_w_3 := hid ho
  clear hC hX ho hlo X_p_2 X_e_2 B_2
  clear cX_p0_2 cX_p1_2 cX_p2_2 cX_e0_2 cX_e1_2 cX_e2_2
  have cX_p0_3 := X_p_3.out.cell (j := 0) rfl
  have cX_p1_3 := X_p_3.out.cell (j := 1) rfl
  have cX_p2_3 := X_p_3.out.cell (j := 2) rfl
  have cX_e0_3 := X_e_3.out.cell (j := 0) rfl
  have cX_e1_3 := X_e_3.out.cell (j := 1) rfl
  have cX_e2_3 := X_e_3.out.cell (j := 2) rfl
  have cX_w0_3 := X_w_3.out.cell (j := 0) rfl
  have cX_w1_3 := X_w_3.out.cell (j := 1) rfl
  have cX_w2_3 := X_w_3.out.cell (j := 2) rfl
  go_wp2_with fail
  refine Calls.mono (toLog_o s t ao l cap hl2 _ (HA.out.on B_3.out)) ?_
  rintro e w4 ⟨v4, c4, rfl, hc4, h4, b4⟩
  have O4 := hid b4.size
  have Y4 := hid h4
  clear h4
  have X_p_4 := hid (X_p_3.out.on b4 X_p_3.out.lt)
  have X_e_4 := hid (X_e_3.out.on b4 X_e_3.out.lt)
  have B_4 := hid (below_via B_3.out b4)
  have X_w_4 := hid (X_w_3.out.on b4 X_w_3.out.lt)
  have R_w_4 := hid (R_w_3.out.on b4)
  clear b4 X_p_3 X_e_3 B_3 X_w_3 R_w_3 cX_p0_3 cX_p1_3 cX_p2_3 cX_e0_3 cX_e1_3 cX_e2_3 cX_w0_3 cX_w1_3 cX_w2_3
  have cX_p0_4 := X_p_4.out.cell (j := 0) rfl
  have cX_p1_4 := X_p_4.out.cell (j := 1) rfl
  have cX_p2_4 := X_p_4.out.cell (j := 2) rfl
  have cX_e0_4 := X_e_4.out.cell (j := 0) rfl
  have cX_e1_4 := X_e_4.out.cell (j := 1) rfl
  have cX_e2_4 := X_e_4.out.cell (j := 2) rfl
  have cX_w0_4 := X_w_4.out.cell (j := 0) rfl
  have cX_w1_4 := X_w_4.out.cell (j := 1) rfl
  have cX_w2_4 := X_w_4.out.cell (j := 2) rfl
  have ba := below_more (Below.refl w4.heap.size w4) (.cells #[.int .i64 s, .int .i64 t, .slice v4 l.length c4] 31)
  have hx : BlockIs (w4.alloc (.cells #[.int .i64 s, .int .i64 t, .slice v4 l.length c4] 31)) w4.heap.size 31 [.int .i64 s, .int .i64 t, .slice v4 l.length c4] := heap_alloc_new w4 _
  have X_p_4a := hid (X_p_4.out.on ba X_p_4.out.lt)
  have X_e_4a := hid (X_e_4.out.on ba X_e_4.out.lt)
  have B_4a := hid (below_via B_4.out ba)
  have X_w_4a := hid (X_w_4.out.on ba X_w_4.out.lt)
  have R_w_4a := hid (R_w_4.out.on ba)
  have Y4_4a := hid (Y4.out.on ba)
  have X_x_4a := hid hx
  have O4a := hid hx.lt
  clear ba hx X_p_4 X_e_4 B_4 X_w_4 R_w_4 Y4
  have cX_p0_4a := X_p_4a.out.cell (j := 0) rfl
  have cX_p1_4a := X_p_4a.out.cell (j := 1) rfl
  have cX_p2_4a := X_p_4a.out.cell (j := 2) rfl
  have cX_e0_4a := X_e_4a.out.cell (j := 0) rfl
  have cX_e1_4a := X_e_4a.out.cell (j := 1) rfl
  have cX_e2_4a := X_e_4a.out.cell (j := 2) rfl
  have cX_w0_4a := X_w_4a.out.cell (j := 0) rfl
  have cX_w1_4a := X_w_4a.out.cell (j := 1) rfl
  have cX_w2_4a := X_w_4a.out.cell (j := 2) rfl
  have cX_x0_4a := X_x_4a.out.cell (j := 0) rfl
  have cX_x1_4a := X_x_4a.out.cell (j := 1) rfl
  have cX_x2_4a := X_x_4a.out.cell (j := 2) rfl
  go_wp2
  obtain ⟨wn4, hwn⟩ : ∃ W, w4.alloc (.cells #[.int .i64 s, .int .i64 t, .slice v4 l.length c4] 31) = W := ⟨_, rfl⟩
  rw [hwn] at X_p_4a X_e_4a B_4a X_w_4a R_w_4a Y4_4a X_x_4a cX_p0_4a cX_p1_4a cX_p2_4a cX_e0_4a cX_e1_4a cX_e2_4a cX_w0_4a cX_w1_4a cX_w2_4a cX_x0_4a cX_x1_4a cX_x2_4a O4a ⊢
  clear hwn
  clear cX_p0_4 cX_p1_4 cX_p2_4 cX_e0_4 cX_e1_4 cX_e2_4 cX_w0_4 cX_w1_4 cX_w2_4
  refine wp_region_each (N := 114) (by kernel_rfl) (by kernel_rfl) rfl (by kernel_rfl) (fun W => Below wn4.heap.size wn4 W) (fun j v u W => match j with | 0 => v = .agg #[.int .i64 s, .int .i64 t, .slice v4 l.length c4] | 1 => v = .int .i64 i | 2 => v = .agg #[.int .i64 d.term, .int .i64 d.kind, .string d.data] | 3 => v = .agg #[.int .i64 d.term, .int .i64 d.kind, .string d.data] | 4 => ∃ va vc, v = .tuple #[.agg #[.int .i64 S, .int .i64 T, .slice va AN.length vc], .bool ok] ∧ OwnAt W 35 (entCells AN) AN.length va wn4.heap.size W.heap.size | 5 => ∃ va vc, v = .tuple #[.agg #[.int .i64 S, .int .i64 T, .slice va AN.length vc], .bool ok] ∧ OwnAt W 35 (entCells AN) AN.length va wn4.heap.size W.heap.size | 6 => ∃ va vc, v = .agg #[.int .i64 S, .int .i64 T, .slice va AN.length vc] ∧ OwnAt W 35 (entCells AN) AN.length va wn4.heap.size W.heap.size | 7 => v = .bool ok | 8 => ∃ X, v = .pointer (some ⟨X, 0, none⟩) ∧ wn4.heap.size ≤ X ∧ BlockIs W X 31 [.int .i64 0, .int .i64 0, .slice none 0 0] | 9 => ∃ X va vc, u = .pointer (some ⟨X, 0, none⟩) ∧ wn4.heap.size ≤ X ∧ BlockIs W X 31 [.int .i64 S, .int .i64 T, .slice va AN.length vc] ∧ OwnAt W 35 (entCells AN) AN.length va wn4.heap.size W.heap.size | 10 => v = .bool ok | _ => True) (fun i => if i = 9 then 8 else i) (fun j i => decide ((j, i) ∈ ([(8, 9)] : List (Nat × Nat)))) (fun i x y => x.heap.size ≤ y.heap.size ∧ ∀ g ty cs, BlockIs x g ty cs → (i = 9 → ty ≠ 31) → BlockIs y g ty cs) (fun i => if i = 9 then 11 else 0) (by kernel_rfl) (fun i hi => by have : 11 ≤ i := hi; simp; omega) ?_ (below_drewN (Below.refl _ _) 1) ?_ ?_
  · intro i j v u x y hij hdd hwt hxy hg
    match j, hg with
    | 0, hg => exact hg
    | 1, hg => exact hg
    | 2, hg => exact hg
    | 3, hg => exact hg
    | 4, hg =>
      obtain ⟨va, vc, e1, e3⟩ := hg
      exact ⟨va, vc, e1, e3.ext hxy.1 fun g r h => hxy.2 _ _ _ h (fun _ => by decide)⟩
    | 5, hg =>
      obtain ⟨va, vc, e1, e3⟩ := hg
      exact ⟨va, vc, e1, e3.ext hxy.1 fun g r h => hxy.2 _ _ _ h (fun _ => by decide)⟩
    | 6, hg =>
      obtain ⟨va, vc, e1, e3⟩ := hg
      exact ⟨va, vc, e1, e3.ext hxy.1 fun g r h => hxy.2 _ _ _ h (fun _ => by decide)⟩
    | 7, hg => exact hg
    | 8, hg =>
      obtain ⟨X, e1, e2, e3⟩ := hg
      simp at hdd
      exact ⟨X, e1, e2, hxy.2 _ _ _ e3 (fun e => absurd e hdd)⟩
    | 9, hg =>
      obtain ⟨X, va, vc, e1, e2, e4, e5⟩ := hg
      exact ⟨X, va, vc, e1, e2, hxy.2 _ _ _ e4 (fun e => absurd e hij), e5.ext hxy.1 fun g r h => hxy.2 _ _ _ h (fun _ => by decide)⟩
    | 10, hg => exact hg
    | n + 11, _ => exact trivial
  · refine ⟨?_, ?_, ?_, ?_, ?_, ?_, ?_, ?_, ?_, ?_, ?_, trivial⟩
    · intro A W hC hg hb
      have h10 : A.eval (.tmp 10) = .pointer (some ⟨w4.heap.size, 0, none⟩) := hb 10 (base_of (by kernel_rfl))
      have hc0 := (X_x_4a.out.on hC X_x_4a.out.lt).cell (j := 0) rfl
      have hc1 := (X_x_4a.out.on hC X_x_4a.out.lt).cell (j := 1) rfl
      have hc2 := (X_x_4a.out.on hC X_x_4a.out.lt).cell (j := 2) rfl
      exact does_value (v := .agg #[.int .i64 s, .int .i64 t, .slice v4 l.length c4]) (w' := W) (by simp only [execOp, h10]; simp [go_sem, hc0, hc1, hc2]) ⟨rfl, hC, Nat.le_refl _, fun _ _ _ h _ => h⟩
    · intro A W hC hg hb
      have h1 : A.eval (.tmp 1) = .int .i64 i := hb 1 (base_of (by kernel_rfl))
      exact does_value (v := .int .i64 i) (w' := W) (by simp only [execOp, h1]; simp [go_sem]) ⟨rfl, hC, Nat.le_refl _, fun _ _ _ h _ => h⟩
    · intro A W hC hg hb
      have h5 : A.eval (.tmp 5) = .pointer (some ⟨w.heap.size + 1, 0, none⟩) := hb 5 (base_of (by kernel_rfl))
      have hc0 := (X_e_4a.out.on hC X_e_4a.out.lt).cell (j := 0) rfl
      have hc1 := (X_e_4a.out.on hC X_e_4a.out.lt).cell (j := 1) rfl
      have hc2 := (X_e_4a.out.on hC X_e_4a.out.lt).cell (j := 2) rfl
      exact does_value (v := .agg #[.int .i64 d.term, .int .i64 d.kind, .string d.data]) (w' := W) (by simp only [execOp, h5]; simp [go_sem, hc0, hc1, hc2]) ⟨rfl, hC, Nat.le_refl _, fun _ _ _ h _ => h⟩
    · intro A W hC hg hb
      have h42 : A.eval (.tmp 42) = .agg #[.int .i64 d.term, .int .i64 d.kind, .string d.data] := hg 2 42 (by decide) rfl (by simp [Op.operands, Call.operands]) (by kernel_rfl) rfl
      simp [go_sem] at h42
      refine does_enter (f := 13) (args := #[.agg #[.int .i64 d.term, .int .i64 d.kind, .string d.data]]) (w' := W) (by simp [go_sem, h42]) ?_
      refine (toEntry_any d W).mono ?_
      rintro e W' ⟨rfl, hb'⟩
      exact ⟨_, rfl, rfl, below_via hC hb', hb'.size, fun _ _ _ h _ => h.on hb' h.lt⟩
    · intro A W hC hg hb
      have h40 : A.eval (.tmp 40) = .agg #[.int .i64 s, .int .i64 t, .slice v4 l.length c4] := hg 0 40 (by decide) rfl (by simp [Op.operands, Call.operands]) (by kernel_rfl) rfl
      have h41 : A.eval (.tmp 41) = .int .i64 i := hg 1 41 (by decide) rfl (by simp [Op.operands, Call.operands]) (by kernel_rfl) rfl
      have h43 : A.eval (.tmp 43) = .agg #[.int .i64 d.term, .int .i64 d.kind, .string d.data] := hg 3 43 (by decide) rfl (by simp [Op.operands, Call.operands]) (by kernel_rfl) rfl
      simp [go_sem] at h40 h41 h43
      refine does_enter (f := 14) (args := #[.agg #[.int .i64 s, .int .i64 t, .slice v4 l.length c4], .int .i64 i, .agg #[.int .i64 d.term, .int .i64 d.kind, .string d.data]]) (w' := W) (by simp [go_sem, h40, h41, h43]) ?_
      have CQ := implLogPut_any s t i d _ l c4 hs hl2 HSM.out hd2 hc4 W (Y4_4a.out.on hC).ents
      rw [hF] at CQ
      refine Calls.mono CQ ?_
      rintro e W' ⟨va, vc, rfl, _, ho, hb'⟩
      exact ⟨_, rfl, ⟨va, vc, rfl, ho.down hC.size (Nat.le_refl _)⟩, below_via hC hb', hb'.size, fun _ _ _ h _ => h.on hb' h.lt⟩
    · intro A W hC hg hb
      have g4 := hg 4 44 (by decide) rfl (by simp [Op.operands]) (by kernel_rfl) rfl
      obtain ⟨va, vc, h44, ho⟩ := g4
      exact does_value (v := .tuple #[.agg #[.int .i64 S, .int .i64 T, .slice va AN.length vc], .bool ok]) (w' := W) (by simp only [execOp, h44]; simp [go_sem]) ⟨⟨va, vc, rfl, ho⟩, hC, Nat.le_refl _, fun _ _ _ h _ => h⟩
    · intro A W hC hg hb
      have g5 := hg 5 39 (by decide) rfl (by simp [Op.operands]) (by kernel_rfl) rfl
      obtain ⟨va, vc, h39, ho⟩ := g5
      exact does_value (v := .agg #[.int .i64 S, .int .i64 T, .slice va AN.length vc]) (w' := W) (by simp only [execOp, h39]; simp [go_sem]) ⟨⟨va, vc, rfl, ho⟩, hC, Nat.le_refl _, fun _ _ _ h _ => h⟩
    · intro A W hC hg hb
      have g5 := hg 5 39 (by decide) rfl (by simp [Op.operands]) (by kernel_rfl) rfl
      obtain ⟨va, vc, h39, _⟩ := g5
      exact does_value (v := .bool ok) (w' := W) (by simp only [execOp, h39]; simp [go_sem]) ⟨rfl, hC, Nat.le_refl _, fun _ _ _ h _ => h⟩
    · intro A W hC hg hb
      exact does_value (v := .pointer (some ⟨W.heap.size, 0, none⟩)) (w' := W.alloc (.cells #[.int .i64 0, .int .i64 0, .slice none 0 0] 31)) (by simp [execOp, go_sem]) ⟨⟨_, rfl, hC.size, heap_alloc_new W _⟩, below_more hC _, (below_more (Below.refl _ W) _).size, fun _ _ _ h _ => h.on (below_more (Below.refl _ W) _) h.lt⟩
    · intro A W hC hg hb
      have g8 := hg 8 11 (by decide) rfl (by simp [Op.operands]) (by kernel_rfl) rfl
      have g6 := hg 6 45 (by decide) rfl (by simp [Op.operands]) (by kernel_rfl) rfl
      obtain ⟨X, h11, hlo, hX⟩ := g8
      obtain ⟨va, vc, h45, ho⟩ := g6
      have c0 := hX.cell (j := 0) rfl
      have c1 := hX.cell (j := 1) rfl
      have c2 := hX.cell (j := 2) rfl
      have f0 := hX.thaw 0
      have f1 := hX.thaw 1
      have f2 := hX.thaw 2
      have hX3 := ((hX.set 0 (.int .i64 S)).set 1 (.int .i64 T)).set 2 (.slice va AN.length vc)
      have far : ∀ q ty cs, BlockIs W q ty cs → ty ≠ 31 → BlockIs (((W.setCell ⟨X, 0, none⟩ (.int .i64 S)).setCell ⟨X, 1, none⟩ (.int .i64 T)).setCell ⟨X, 2, none⟩ (.slice va AN.length vc)) q ty cs := fun q ty cs hq hne => by
        have hqX : X ≠ q := by intro e; subst e; exact hne (block_one hq hX).1
        exact ((hq.far hqX _).far hqX _).far hqX _
      refine does_skip (w' := ((W.setCell ⟨X, 0, none⟩ (.int .i64 S)).setCell ⟨X, 1, none⟩ (.int .i64 T)).setCell ⟨X, 2, none⟩ (.slice va AN.length vc)) (by simp only [execOp, h11, h45]; simp [go_sem, c0, c1, c2, f0, f1, f2]) ⟨⟨X, va, vc, h11, hlo, hX3, ?_⟩, ((hC.setCell hlo _).setCell hlo _).setCell hlo _, ?_, fun q ty cs hq hne => far q ty cs hq (hne rfl)⟩
      · exact ho.ext (by simp [World.size_setCell]) (fun g r h => far g _ _ h (by decide))
      · simp [World.size_setCell]
    · intro A W hC hg hb
      have h46 : A.eval (.tmp 46) = .bool ok := hg 7 46 (by decide) rfl (by simp [Op.operands]) (by kernel_rfl) rfl
      exact does_value (v := .bool ok) (w' := W) (by simp only [execOp, h46]; simp [go_sem]) ⟨rfl, hC, Nat.le_refl _, fun _ _ _ h _ => h⟩
  intro vs w5 hC hg
  obtain ⟨B5, v5, c5, hu, hlo, hX, ho⟩ := hg 9 (by decide) (fun k => by simp)
  have hok := hg 10 (by decide) (fun k => by simp)
  change vs 8 = _ at hu
  change vs 10 = _ at hok
  clear hg
  change Exit.then _ _ _ (laidBy _ vs _ 11 _) w5
  simp only [laidBy, if_true, dstAt, List.getElem?_toArray, List.getElem?_cons_succ, List.getElem?_cons_zero, Option.bind_some]
  simp only [Act.put, List.setIfInBounds_toArray, List.set_cons_succ, List.set_cons_zero]
  rw [hu, hok]
  clear hu hok
  have O5 := hid hC.size
  have O5c := hid hX.lt
  have O5d := hid hlo
  have X_p_5 := hid (X_p_4a.out.on hC X_p_4a.out.lt)
  have X_e_5 := hid (X_e_4a.out.on hC X_e_4a.out.lt)
  have B_5 := hid (below_via B_4a.out hC)
  have X_w_5 := hid (X_w_4a.out.on hC X_w_4a.out.lt)
  have R_w_5 := hid (R_w_4a.out.on hC)
  have Y4_5 := hid (Y4_4a.out.on hC)
  have X_x_5 := hid (X_x_4a.out.on hC X_x_4a.out.lt)
  have X_g_5 := hid hX
  have R_g_5 := hid ho
  clear hC hX ho hlo X_p_4a X_e_4a B_4a X_w_4a R_w_4a Y4_4a X_x_4a
  clear cX_p0_4a cX_p1_4a cX_p2_4a cX_e0_4a cX_e1_4a cX_e2_4a cX_w0_4a cX_w1_4a cX_w2_4a cX_x0_4a cX_x1_4a cX_x2_4a
  have cX_p0_5 := X_p_5.out.cell (j := 0) rfl
  have cX_p1_5 := X_p_5.out.cell (j := 1) rfl
  have cX_p2_5 := X_p_5.out.cell (j := 2) rfl
  have cX_e0_5 := X_e_5.out.cell (j := 0) rfl
  have cX_e1_5 := X_e_5.out.cell (j := 1) rfl
  have cX_e2_5 := X_e_5.out.cell (j := 2) rfl
  have cX_w0_5 := X_w_5.out.cell (j := 0) rfl
  have cX_w1_5 := X_w_5.out.cell (j := 1) rfl
  have cX_w2_5 := X_w_5.out.cell (j := 2) rfl
  have cX_x0_5 := X_x_5.out.cell (j := 0) rfl
  have cX_x1_5 := X_x_5.out.cell (j := 1) rfl
  have cX_x2_5 := X_x_5.out.cell (j := 2) rfl
  have cX_g0_5 := X_g_5.out.cell (j := 0) rfl
  have cX_g1_5 := X_g_5.out.cell (j := 1) rfl
  have cX_g2_5 := X_g_5.out.cell (j := 2) rfl
  go_wp2_with fail
  refine Calls.mono (eqLog_o S T v5 v3 AN c5 c3 (by omega) _ R_g_5.out.ents R_w_5.out.ents) ?_
  rintro e w6 ⟨rfl, b6⟩
  have O6 := hid b6.size
  have X_p_6 := hid (X_p_5.out.on b6 X_p_5.out.lt)
  have X_e_6 := hid (X_e_5.out.on b6 X_e_5.out.lt)
  have B_6 := hid (below_via B_5.out b6)
  have X_w_6 := hid (X_w_5.out.on b6 X_w_5.out.lt)
  have R_w_6 := hid (R_w_5.out.on b6)
  have Y4_6 := hid (Y4_5.out.on b6)
  have X_x_6 := hid (X_x_5.out.on b6 X_x_5.out.lt)
  have X_g_6 := hid (X_g_5.out.on b6 X_g_5.out.lt)
  have R_g_6 := hid (R_g_5.out.on b6)
  clear b6 X_p_5 X_e_5 B_5 X_w_5 R_w_5 Y4_5 X_x_5 X_g_5 R_g_5 cX_p0_5 cX_p1_5 cX_p2_5 cX_e0_5 cX_e1_5 cX_e2_5 cX_w0_5 cX_w1_5 cX_w2_5 cX_x0_5 cX_x1_5 cX_x2_5 cX_g0_5 cX_g1_5 cX_g2_5
  have cX_p0_6 := X_p_6.out.cell (j := 0) rfl
  have cX_p1_6 := X_p_6.out.cell (j := 1) rfl
  have cX_p2_6 := X_p_6.out.cell (j := 2) rfl
  have cX_e0_6 := X_e_6.out.cell (j := 0) rfl
  have cX_e1_6 := X_e_6.out.cell (j := 1) rfl
  have cX_e2_6 := X_e_6.out.cell (j := 2) rfl
  have cX_w0_6 := X_w_6.out.cell (j := 0) rfl
  have cX_w1_6 := X_w_6.out.cell (j := 1) rfl
  have cX_w2_6 := X_w_6.out.cell (j := 2) rfl
  have cX_x0_6 := X_x_6.out.cell (j := 0) rfl
  have cX_x1_6 := X_x_6.out.cell (j := 1) rfl
  have cX_x2_6 := X_x_6.out.cell (j := 2) rfl
  have cX_g0_6 := X_g_6.out.cell (j := 0) rfl
  have cX_g1_6 := X_g_6.out.cell (j := 1) rfl
  have cX_g2_6 := X_g_6.out.cell (j := 2) rfl
  go_wp2
  refine wp_region_each (N := 114) (by kernel_rfl) (by kernel_rfl) rfl (by kernel_rfl) (fun W => Below w6.heap.size w6 W) (fun j v _ W => match j with | 0 => v = .agg #[.int .i64 s, .int .i64 t, .slice v4 l.length c4] | 1 => v = .agg #[.int .i64 s, .int .i64 t, .slice ao l.length cap] | 2 => ∃ va vc, v = .agg #[.int .i64 s, .int .i64 t, .slice va l.length vc] ∧ EntsAt W va l | 3 => v = .bool true | 4 => v = .bool false | _ => True) (fun i => i) (fun _ _ => false) (fun _ x y => Below x.heap.size x y) (fun _ => 0) (by kernel_rfl) (fun _ _ => rfl) ?_ (below_drewN (Below.refl _ _) 1) ?_ ?_
  · intro i j v u x y hij hdd hwt hxy hg
    match j, hg with
    | 0, hg => exact hg
    | 1, hg => exact hg
    | 2, hg =>
      obtain ⟨va, vc, e1, e2⟩ := hg
      exact ⟨va, vc, e1, e2.on hxy⟩
    | 3, hg => exact hg
    | 4, hg => exact hg
    | n + 5, _ => exact trivial
  · refine ⟨?_, ?_, ?_, ?_, ?_, trivial⟩
    · intro A W hC hg hb
      have h10 : A.eval (.tmp 10) = .pointer (some ⟨w4.heap.size, 0, none⟩) := hb 10 (base_of (by kernel_rfl))
      have hc0 := (X_x_6.out.on hC X_x_6.out.lt).cell (j := 0) rfl
      have hc1 := (X_x_6.out.on hC X_x_6.out.lt).cell (j := 1) rfl
      have hc2 := (X_x_6.out.on hC X_x_6.out.lt).cell (j := 2) rfl
      exact does_value (v := .agg #[.int .i64 s, .int .i64 t, .slice v4 l.length c4]) (w' := W) (by simp only [execOp, h10]; simp [go_sem, hc0, hc1, hc2]) ⟨rfl, hC, Below.refl _ _⟩
    · intro A W hC hg hb
      have h3 : A.eval (.tmp 3) = .pointer (some ⟨w.heap.size, 0, none⟩) := hb 3 (base_of (by kernel_rfl))
      have hc0 := (X_p_6.out.on hC X_p_6.out.lt).cell (j := 0) rfl
      have hc1 := (X_p_6.out.on hC X_p_6.out.lt).cell (j := 1) rfl
      have hc2 := (X_p_6.out.on hC X_p_6.out.lt).cell (j := 2) rfl
      exact does_value (v := .agg #[.int .i64 s, .int .i64 t, .slice ao l.length cap]) (w' := W) (by simp only [execOp, h3]; simp [go_sem, hc0, hc1, hc2]) ⟨rfl, hC, Below.refl _ _⟩
    · intro A W hC hg hb
      have h57 : A.eval (.tmp 57) = .agg #[.int .i64 s, .int .i64 t, .slice ao l.length cap] := hg 1 57 (by decide) rfl (by simp [Op.operands, Call.operands]) (by kernel_rfl) rfl
      simp [go_sem] at h57
      refine does_enter (f := 12) (args := #[.agg #[.int .i64 s, .int .i64 t, .slice ao l.length cap]]) (w' := W) (by simp [go_sem, h57]) ?_
      refine (toLog_o s t ao l cap hl2 W (HA.out.on (below_via B_6.out hC))).mono ?_
      rintro e W' ⟨va, vc, rfl, hvc, ho, hb'⟩
      exact ⟨_, rfl, ⟨va, vc, rfl, ho.ents⟩, below_via hC hb', hb'⟩
    · intro A W hC hg hb
      have h56 : A.eval (.tmp 56) = .agg #[.int .i64 s, .int .i64 t, .slice v4 l.length c4] := hg 0 56 (by decide) rfl (by simp [Op.operands, Call.operands]) (by kernel_rfl) rfl
      have g2 := hg 2 58 (by decide) rfl (by simp [Op.operands, Call.operands]) (by kernel_rfl) rfl
      obtain ⟨va, vc, h58, ho⟩ := g2
      simp [go_sem] at h56 h58
      refine does_enter (f := 15) (args := #[.agg #[.int .i64 s, .int .i64 t, .slice v4 l.length c4], .agg #[.int .i64 s, .int .i64 t, .slice va l.length vc]]) (w' := W) (by simp [go_sem, h56, h58]) ?_
      refine (eqLog_o s t _ _ l _ _ (by omega) W ((Y4_6.out.on hC).ents) ho).mono ?_
      rintro e W' ⟨rfl, hb'⟩
      exact ⟨_, rfl, rfl, below_via hC hb', hb'⟩
    · intro A W hC hg hb
      have h59 : A.eval (.tmp 59) = .bool true := hg 3 59 (by decide) rfl (by simp [Op.operands]) (by kernel_rfl) rfl
      exact does_value (v := .bool false) (w' := W) (by simp only [execOp, h59]; simp [go_sem]) ⟨rfl, hC, Below.refl _ _⟩
  intro vs w7 hC hg
  have hok := hg 4 (by decide) (fun k => rfl)
  change vs 4 = _ at hok
  clear hg
  change Exit.then _ _ _ (laidBy _ vs _ 5 _) w7
  simp only [laidBy, if_true, dstAt, List.getElem?_toArray, List.getElem?_cons_succ, List.getElem?_cons_zero, Option.bind_some]
  simp only [Act.put, List.setIfInBounds_toArray, List.set_cons_succ, List.set_cons_zero]
  rw [hok]
  clear hok
  have O7 := hid hC.size
  have X_p_7 := hid (X_p_6.out.on hC X_p_6.out.lt)
  have X_e_7 := hid (X_e_6.out.on hC X_e_6.out.lt)
  have B_7 := hid (below_via B_6.out hC)
  have X_w_7 := hid (X_w_6.out.on hC X_w_6.out.lt)
  have R_w_7 := hid (R_w_6.out.on hC)
  have Y4_7 := hid (Y4_6.out.on hC)
  have X_x_7 := hid (X_x_6.out.on hC X_x_6.out.lt)
  have X_g_7 := hid (X_g_6.out.on hC X_g_6.out.lt)
  have R_g_7 := hid (R_g_6.out.on hC)
  clear hC X_p_6 X_e_6 B_6 X_w_6 R_w_6 Y4_6 X_x_6 X_g_6 R_g_6 cX_p0_6 cX_p1_6 cX_p2_6 cX_e0_6 cX_e1_6 cX_e2_6 cX_w0_6 cX_w1_6 cX_w2_6 cX_x0_6 cX_x1_6 cX_x2_6 cX_g0_6 cX_g1_6 cX_g2_6
  have cX_p0_7 := X_p_7.out.cell (j := 0) rfl
  have cX_p1_7 := X_p_7.out.cell (j := 1) rfl
  have cX_p2_7 := X_p_7.out.cell (j := 2) rfl
  have cX_e0_7 := X_e_7.out.cell (j := 0) rfl
  have cX_e1_7 := X_e_7.out.cell (j := 1) rfl
  have cX_e2_7 := X_e_7.out.cell (j := 2) rfl
  have cX_w0_7 := X_w_7.out.cell (j := 0) rfl
  have cX_w1_7 := X_w_7.out.cell (j := 1) rfl
  have cX_w2_7 := X_w_7.out.cell (j := 2) rfl
  have cX_x0_7 := X_x_7.out.cell (j := 0) rfl
  have cX_x1_7 := X_x_7.out.cell (j := 1) rfl
  have cX_x2_7 := X_x_7.out.cell (j := 2) rfl
  have cX_g0_7 := X_g_7.out.cell (j := 0) rfl
  have cX_g1_7 := X_g_7.out.cell (j := 1) rfl
  have cX_g2_7 := X_g_7.out.cell (j := 2) rfl
  go_wp2_with fail
  refine (markLog_o2 s t 1 v4 c4 l (w3.heap.size) (w4.heap.size) (by omega) (by omega) _ (by have := O0.out; have := O1.out; have := O2.out; have := O3.out; have := O3c.out; have := O3d.out; have := O4.out; have := O4a.out; have := O5.out; have := O5c.out; have := O5d.out; have := O6.out; have := O7.out; omega) Y4_7.out).mono ?_
  rintro e w8 ⟨rfl, hm8, kp, b8⟩
  have O8 := hid b8.size
  have X_p_8 := hid (X_p_7.out.kept2 kp (by decide))
  have X_e_8 := hid (X_e_7.out.kept2 kp (by decide))
  have B_8 := hid (B_7.out.trans (b8.mono (by have := O0.out; have := O1.out; have := O2.out; have := O3.out; have := O3c.out; have := O3d.out; have := O4.out; have := O4a.out; have := O5.out; have := O5c.out; have := O5d.out; have := O6.out; have := O7.out; have := O8.out; omega)))
  have X_w_8 := hid (X_w_7.out.kept2 kp (by decide))
  have R_w_8 := hid (R_w_7.out.kept2 kp (by have := O0.out; have := O1.out; have := O2.out; have := O3.out; have := O3c.out; have := O3d.out; have := O4.out; have := O4a.out; have := O5.out; have := O5c.out; have := O5d.out; have := O6.out; have := O7.out; have := O8.out; omega))
  have X_x_8 := hid (X_x_7.out.kept2 kp (by decide))
  have X_g_8 := hid (X_g_7.out.kept2 kp (by decide))
  have R_g_8 := hid (R_g_7.out.kept2 kp (by have := O0.out; have := O1.out; have := O2.out; have := O3.out; have := O3c.out; have := O3d.out; have := O4.out; have := O4a.out; have := O5.out; have := O5c.out; have := O5d.out; have := O6.out; have := O7.out; have := O8.out; omega))
  clear kp b8 Y4_7 X_p_7 X_e_7 B_7 X_w_7 R_w_7 X_x_7 X_g_7 R_g_7 cX_p0_7 cX_p1_7 cX_p2_7 cX_e0_7 cX_e1_7 cX_e2_7 cX_w0_7 cX_w1_7 cX_w2_7 cX_x0_7 cX_x1_7 cX_x2_7 cX_g0_7 cX_g1_7 cX_g2_7
  have cX_p0_8 := X_p_8.out.cell (j := 0) rfl
  have cX_p1_8 := X_p_8.out.cell (j := 1) rfl
  have cX_p2_8 := X_p_8.out.cell (j := 2) rfl
  have cX_e0_8 := X_e_8.out.cell (j := 0) rfl
  have cX_e1_8 := X_e_8.out.cell (j := 1) rfl
  have cX_e2_8 := X_e_8.out.cell (j := 2) rfl
  have cX_w0_8 := X_w_8.out.cell (j := 0) rfl
  have cX_w1_8 := X_w_8.out.cell (j := 1) rfl
  have cX_w2_8 := X_w_8.out.cell (j := 2) rfl
  have cX_x0_8 := X_x_8.out.cell (j := 0) rfl
  have cX_x1_8 := X_x_8.out.cell (j := 1) rfl
  have cX_x2_8 := X_x_8.out.cell (j := 2) rfl
  have cX_g0_8 := X_g_8.out.cell (j := 0) rfl
  have cX_g1_8 := X_g_8.out.cell (j := 1) rfl
  have cX_g2_8 := X_g_8.out.cell (j := 2) rfl
  clear hm8
  go_wp2_with fail
  refine Calls.mono (eqLog_o S T v5 v3 AN c5 c3 (by omega) _ R_g_8.out.ents R_w_8.out.ents) ?_
  rintro e w9 ⟨rfl, b9⟩
  have O9 := hid b9.size
  have X_p_9 := hid (X_p_8.out.on b9 X_p_8.out.lt)
  have X_e_9 := hid (X_e_8.out.on b9 X_e_8.out.lt)
  have B_9 := hid (below_via B_8.out b9)
  have X_w_9 := hid (X_w_8.out.on b9 X_w_8.out.lt)
  have R_w_9 := hid (R_w_8.out.on b9)
  have X_x_9 := hid (X_x_8.out.on b9 X_x_8.out.lt)
  have X_g_9 := hid (X_g_8.out.on b9 X_g_8.out.lt)
  have R_g_9 := hid (R_g_8.out.on b9)
  clear b9 X_p_8 X_e_8 B_8 X_w_8 R_w_8 X_x_8 X_g_8 R_g_8 cX_p0_8 cX_p1_8 cX_p2_8 cX_e0_8 cX_e1_8 cX_e2_8 cX_w0_8 cX_w1_8 cX_w2_8 cX_x0_8 cX_x1_8 cX_x2_8 cX_g0_8 cX_g1_8 cX_g2_8
  have cX_p0_9 := X_p_9.out.cell (j := 0) rfl
  have cX_p1_9 := X_p_9.out.cell (j := 1) rfl
  have cX_p2_9 := X_p_9.out.cell (j := 2) rfl
  have cX_e0_9 := X_e_9.out.cell (j := 0) rfl
  have cX_e1_9 := X_e_9.out.cell (j := 1) rfl
  have cX_e2_9 := X_e_9.out.cell (j := 2) rfl
  have cX_w0_9 := X_w_9.out.cell (j := 0) rfl
  have cX_w1_9 := X_w_9.out.cell (j := 1) rfl
  have cX_w2_9 := X_w_9.out.cell (j := 2) rfl
  have cX_x0_9 := X_x_9.out.cell (j := 0) rfl
  have cX_x1_9 := X_x_9.out.cell (j := 1) rfl
  have cX_x2_9 := X_x_9.out.cell (j := 2) rfl
  have cX_g0_9 := X_g_9.out.cell (j := 0) rfl
  have cX_g1_9 := X_g_9.out.cell (j := 1) rfl
  have cX_g2_9 := X_g_9.out.cell (j := 2) rfl
  go_wp2_with fail
  refine (markLog_o2 S T 1 v5 c5 AN (wn4.heap.size) (w5.heap.size) (by omega) (by omega) _ (by have := O0.out; have := O1.out; have := O2.out; have := O3.out; have := O3c.out; have := O3d.out; have := O4.out; have := O4a.out; have := O5.out; have := O5c.out; have := O5d.out; have := O6.out; have := O7.out; have := O8.out; have := O9.out; omega) R_g_9.out).mono ?_
  rintro e w10 ⟨rfl, hm10, kp, b10⟩
  have O10 := hid b10.size
  have X_p_10 := hid (X_p_9.out.kept2 kp (by decide))
  have X_e_10 := hid (X_e_9.out.kept2 kp (by decide))
  have B_10 := hid (B_9.out.trans (b10.mono (by have := O0.out; have := O1.out; have := O2.out; have := O3.out; have := O3c.out; have := O3d.out; have := O4.out; have := O4a.out; have := O5.out; have := O5c.out; have := O5d.out; have := O6.out; have := O7.out; have := O8.out; have := O9.out; have := O10.out; omega)))
  have X_w_10 := hid (X_w_9.out.kept2 kp (by decide))
  have R_w_10 := hid (R_w_9.out.kept2 kp (by have := O0.out; have := O1.out; have := O2.out; have := O3.out; have := O3c.out; have := O3d.out; have := O4.out; have := O4a.out; have := O5.out; have := O5c.out; have := O5d.out; have := O6.out; have := O7.out; have := O8.out; have := O9.out; have := O10.out; omega))
  have X_x_10 := hid (X_x_9.out.kept2 kp (by decide))
  have X_g_10 := hid (X_g_9.out.kept2 kp (by decide))
  clear kp b10 R_g_9 X_p_9 X_e_9 B_9 X_w_9 R_w_9 X_x_9 X_g_9 cX_p0_9 cX_p1_9 cX_p2_9 cX_e0_9 cX_e1_9 cX_e2_9 cX_w0_9 cX_w1_9 cX_w2_9 cX_x0_9 cX_x1_9 cX_x2_9 cX_g0_9 cX_g1_9 cX_g2_9
  have cX_p0_10 := X_p_10.out.cell (j := 0) rfl
  have cX_p1_10 := X_p_10.out.cell (j := 1) rfl
  have cX_p2_10 := X_p_10.out.cell (j := 2) rfl
  have cX_e0_10 := X_e_10.out.cell (j := 0) rfl
  have cX_e1_10 := X_e_10.out.cell (j := 1) rfl
  have cX_e2_10 := X_e_10.out.cell (j := 2) rfl
  have cX_w0_10 := X_w_10.out.cell (j := 0) rfl
  have cX_w1_10 := X_w_10.out.cell (j := 1) rfl
  have cX_w2_10 := X_w_10.out.cell (j := 2) rfl
  have cX_x0_10 := X_x_10.out.cell (j := 0) rfl
  have cX_x1_10 := X_x_10.out.cell (j := 1) rfl
  have cX_x2_10 := X_x_10.out.cell (j := 2) rfl
  have cX_g0_10 := X_g_10.out.cell (j := 0) rfl
  have cX_g1_10 := X_g_10.out.cell (j := 1) rfl
  have cX_g2_10 := X_g_10.out.cell (j := 2) rfl
  have M_10 := hid hm10
  clear hm10
  go_wp2_with fail
  refine Calls.mono (heldLog_any S T v5 AN.length c5 1 (by omega) hA2 _ M_10.out) ?_
  rintro e w11 ⟨rfl, b11⟩
  have O11 := hid b11.size
  have X_p_11 := hid (X_p_10.out.on b11 X_p_10.out.lt)
  have X_e_11 := hid (X_e_10.out.on b11 X_e_10.out.lt)
  have B_11 := hid (below_via B_10.out b11)
  have X_w_11 := hid (X_w_10.out.on b11 X_w_10.out.lt)
  have R_w_11 := hid (R_w_10.out.on b11)
  have X_x_11 := hid (X_x_10.out.on b11 X_x_10.out.lt)
  have X_g_11 := hid (X_g_10.out.on b11 X_g_10.out.lt)
  have M_11 := hid (M_10.out.on b11)
  clear b11 X_p_10 X_e_10 B_10 X_w_10 R_w_10 X_x_10 X_g_10 M_10 cX_p0_10 cX_p1_10 cX_p2_10 cX_e0_10 cX_e1_10 cX_e2_10 cX_w0_10 cX_w1_10 cX_w2_10 cX_x0_10 cX_x1_10 cX_x2_10 cX_g0_10 cX_g1_10 cX_g2_10
  have cX_p0_11 := X_p_11.out.cell (j := 0) rfl
  have cX_p1_11 := X_p_11.out.cell (j := 1) rfl
  have cX_p2_11 := X_p_11.out.cell (j := 2) rfl
  have cX_e0_11 := X_e_11.out.cell (j := 0) rfl
  have cX_e1_11 := X_e_11.out.cell (j := 1) rfl
  have cX_e2_11 := X_e_11.out.cell (j := 2) rfl
  have cX_w0_11 := X_w_11.out.cell (j := 0) rfl
  have cX_w1_11 := X_w_11.out.cell (j := 1) rfl
  have cX_w2_11 := X_w_11.out.cell (j := 2) rfl
  have cX_x0_11 := X_x_11.out.cell (j := 0) rfl
  have cX_x1_11 := X_x_11.out.cell (j := 1) rfl
  have cX_x2_11 := X_x_11.out.cell (j := 2) rfl
  have cX_g0_11 := X_g_11.out.cell (j := 0) rfl
  have cX_g1_11 := X_g_11.out.cell (j := 1) rfl
  have cX_g2_11 := X_g_11.out.cell (j := 2) rfl
  go_wp2
  refine wp_region_each (N := 114) (by kernel_rfl) (by kernel_rfl) rfl (by kernel_rfl) (fun W => Below w11.heap.size w11 W) (fun j v u W => match j with | 0 => v = .agg #[.int .i64 s, .int .i64 t, .slice ao l.length cap] | 1 => ∃ va vc, v = .agg #[.int .i64 s, .int .i64 t, .slice va l.length vc] ∧ l.length ≤ vc ∧ OwnAt W 35 (entCells l) l.length va w11.heap.size W.heap.size | 2 => v = .int .i64 i | 3 => v = .agg #[.int .i64 d.term, .int .i64 d.kind, .string d.data] | 4 => v = .agg #[.int .i64 d.term, .int .i64 d.kind, .string d.data] | 5 => ∃ va vc, v = .tuple #[.agg #[.int .i64 S, .int .i64 T, .slice va AN.length vc], .bool ok] ∧ OwnAt W 35 (entCells AN) AN.length va w11.heap.size W.heap.size | 6 => ∃ va vc, v = .tuple #[.agg #[.int .i64 S, .int .i64 T, .slice va AN.length vc], .bool ok] ∧ OwnAt W 35 (entCells AN) AN.length va w11.heap.size W.heap.size | 7 => ∃ va vc, v = .agg #[.int .i64 S, .int .i64 T, .slice va AN.length vc] ∧ OwnAt W 35 (entCells AN) AN.length va w11.heap.size W.heap.size | 8 => v = .bool ok | 9 => ∃ X, v = .pointer (some ⟨X, 0, none⟩) ∧ w11.heap.size ≤ X ∧ BlockIs W X 31 [.int .i64 0, .int .i64 0, .slice none 0 0] | 10 => ∃ X va vc, u = .pointer (some ⟨X, 0, none⟩) ∧ w11.heap.size ≤ X ∧ BlockIs W X 31 [.int .i64 S, .int .i64 T, .slice va AN.length vc] ∧ OwnAt W 35 (entCells AN) AN.length va w11.heap.size W.heap.size | 11 => v = .bool ok | _ => True) (fun i => if i = 10 then 9 else i) (fun j i => decide ((j, i) ∈ ([(9, 10)] : List (Nat × Nat)))) (fun i x y => x.heap.size ≤ y.heap.size ∧ ∀ g ty cs, BlockIs x g ty cs → (i = 10 → ty ≠ 31) → BlockIs y g ty cs) (fun i => if i = 10 then 16 else 0) (by kernel_rfl) (fun i hi => by have : 12 ≤ i := hi; simp; omega) ?_ (below_drewN (Below.refl _ _) 1) ?_ ?_
  · intro i j v u x y hij hdd hwt hxy hg
    match j, hg with
    | 0, hg => exact hg
    | 1, hg =>
      obtain ⟨va, vc, e1, e2, e3⟩ := hg
      exact ⟨va, vc, e1, e2, e3.ext hxy.1 fun g r h => hxy.2 _ _ _ h (fun _ => by decide)⟩
    | 2, hg => exact hg
    | 3, hg => exact hg
    | 4, hg => exact hg
    | 5, hg =>
      obtain ⟨va, vc, e1, e3⟩ := hg
      exact ⟨va, vc, e1, e3.ext hxy.1 fun g r h => hxy.2 _ _ _ h (fun _ => by decide)⟩
    | 6, hg =>
      obtain ⟨va, vc, e1, e3⟩ := hg
      exact ⟨va, vc, e1, e3.ext hxy.1 fun g r h => hxy.2 _ _ _ h (fun _ => by decide)⟩
    | 7, hg =>
      obtain ⟨va, vc, e1, e3⟩ := hg
      exact ⟨va, vc, e1, e3.ext hxy.1 fun g r h => hxy.2 _ _ _ h (fun _ => by decide)⟩
    | 8, hg => exact hg
    | 9, hg =>
      obtain ⟨X, e1, e2, e3⟩ := hg
      simp at hdd
      exact ⟨X, e1, e2, hxy.2 _ _ _ e3 (fun e => absurd e hdd)⟩
    | 10, hg =>
      obtain ⟨X, va, vc, e1, e2, e4, e5⟩ := hg
      exact ⟨X, va, vc, e1, e2, hxy.2 _ _ _ e4 (fun e => absurd e hij), e5.ext hxy.1 fun g r h => hxy.2 _ _ _ h (fun _ => by decide)⟩
    | 11, hg => exact hg
    | n + 12, _ => exact trivial
  · refine ⟨?_, ?_, ?_, ?_, ?_, ?_, ?_, ?_, ?_, ?_, ?_, ?_, trivial⟩
    · intro A W hC hg hb
      have h3 : A.eval (.tmp 3) = .pointer (some ⟨w.heap.size, 0, none⟩) := hb 3 (base_of (by kernel_rfl))
      have hc0 := (X_p_11.out.on hC X_p_11.out.lt).cell (j := 0) rfl
      have hc1 := (X_p_11.out.on hC X_p_11.out.lt).cell (j := 1) rfl
      have hc2 := (X_p_11.out.on hC X_p_11.out.lt).cell (j := 2) rfl
      exact does_value (v := .agg #[.int .i64 s, .int .i64 t, .slice ao l.length cap]) (w' := W) (by simp only [execOp, h3]; simp [go_sem, hc0, hc1, hc2]) ⟨rfl, hC, Nat.le_refl _, fun _ _ _ h _ => h⟩
    · intro A W hC hg hb
      have h89 : A.eval (.tmp 89) = .agg #[.int .i64 s, .int .i64 t, .slice ao l.length cap] := hg 0 89 (by decide) rfl (by simp [Op.operands, Call.operands]) (by kernel_rfl) rfl
      simp [go_sem] at h89
      refine does_enter (f := 12) (args := #[.agg #[.int .i64 s, .int .i64 t, .slice ao l.length cap]]) (w' := W) (by simp [go_sem, h89]) ?_
      refine (toLog_o s t ao l cap hl2 W (HA.out.on (below_via B_11.out hC))).mono ?_
      rintro e W' ⟨va, vc, rfl, hvc, ho, hb'⟩
      exact ⟨_, rfl, ⟨va, vc, rfl, hvc, ho.down hC.size (Nat.le_refl _)⟩, below_via hC hb', hb'.size, fun _ _ _ h _ => h.on hb' h.lt⟩
    · intro A W hC hg hb
      have h1 : A.eval (.tmp 1) = .int .i64 i := hb 1 (base_of (by kernel_rfl))
      exact does_value (v := .int .i64 i) (w' := W) (by simp only [execOp, h1]; simp [go_sem]) ⟨rfl, hC, Nat.le_refl _, fun _ _ _ h _ => h⟩
    · intro A W hC hg hb
      have h5 : A.eval (.tmp 5) = .pointer (some ⟨w.heap.size + 1, 0, none⟩) := hb 5 (base_of (by kernel_rfl))
      have hc0 := (X_e_11.out.on hC X_e_11.out.lt).cell (j := 0) rfl
      have hc1 := (X_e_11.out.on hC X_e_11.out.lt).cell (j := 1) rfl
      have hc2 := (X_e_11.out.on hC X_e_11.out.lt).cell (j := 2) rfl
      exact does_value (v := .agg #[.int .i64 d.term, .int .i64 d.kind, .string d.data]) (w' := W) (by simp only [execOp, h5]; simp [go_sem, hc0, hc1, hc2]) ⟨rfl, hC, Nat.le_refl _, fun _ _ _ h _ => h⟩
    · intro A W hC hg hb
      have h92 : A.eval (.tmp 92) = .agg #[.int .i64 d.term, .int .i64 d.kind, .string d.data] := hg 3 92 (by decide) rfl (by simp [Op.operands, Call.operands]) (by kernel_rfl) rfl
      simp [go_sem] at h92
      refine does_enter (f := 13) (args := #[.agg #[.int .i64 d.term, .int .i64 d.kind, .string d.data]]) (w' := W) (by simp [go_sem, h92]) ?_
      refine (toEntry_any d W).mono ?_
      rintro e W' ⟨rfl, hb'⟩
      exact ⟨_, rfl, rfl, below_via hC hb', hb'.size, fun _ _ _ h _ => h.on hb' h.lt⟩
    · intro A W hC hg hb
      have g1 := hg 1 90 (by decide) rfl (by simp [Op.operands, Call.operands]) (by kernel_rfl) rfl
      have h91 : A.eval (.tmp 91) = .int .i64 i := hg 2 91 (by decide) rfl (by simp [Op.operands, Call.operands]) (by kernel_rfl) rfl
      have h93 : A.eval (.tmp 93) = .agg #[.int .i64 d.term, .int .i64 d.kind, .string d.data] := hg 4 93 (by decide) rfl (by simp [Op.operands, Call.operands]) (by kernel_rfl) rfl
      obtain ⟨vy, vx, h90, hvx, hox⟩ := g1
      simp [go_sem] at h90 h91 h93
      refine does_enter (f := 14) (args := #[.agg #[.int .i64 s, .int .i64 t, .slice vy l.length vx], .int .i64 i, .agg #[.int .i64 d.term, .int .i64 d.kind, .string d.data]]) (w' := W) (by simp [go_sem, h90, h91, h93]) ?_
      have CQ := implLogPut_any s t i d _ l vx hs hl2 HSM.out hd2 hvx W hox.ents
      rw [hF] at CQ
      refine Calls.mono CQ ?_
      rintro e W' ⟨va, vc, rfl, _, ho, hb'⟩
      exact ⟨_, rfl, ⟨va, vc, rfl, ho.down hC.size (Nat.le_refl _)⟩, below_via hC hb', hb'.size, fun _ _ _ h _ => h.on hb' h.lt⟩
    · intro A W hC hg hb
      have g5 := hg 5 94 (by decide) rfl (by simp [Op.operands]) (by kernel_rfl) rfl
      obtain ⟨va, vc, h94, ho⟩ := g5
      exact does_value (v := .tuple #[.agg #[.int .i64 S, .int .i64 T, .slice va AN.length vc], .bool ok]) (w' := W) (by simp only [execOp, h94]; simp [go_sem]) ⟨⟨va, vc, rfl, ho⟩, hC, Nat.le_refl _, fun _ _ _ h _ => h⟩
    · intro A W hC hg hb
      have g6 := hg 6 88 (by decide) rfl (by simp [Op.operands]) (by kernel_rfl) rfl
      obtain ⟨va, vc, h88, ho⟩ := g6
      exact does_value (v := .agg #[.int .i64 S, .int .i64 T, .slice va AN.length vc]) (w' := W) (by simp only [execOp, h88]; simp [go_sem]) ⟨⟨va, vc, rfl, ho⟩, hC, Nat.le_refl _, fun _ _ _ h _ => h⟩
    · intro A W hC hg hb
      have g6 := hg 6 88 (by decide) rfl (by simp [Op.operands]) (by kernel_rfl) rfl
      obtain ⟨va, vc, h88, _⟩ := g6
      exact does_value (v := .bool ok) (w' := W) (by simp only [execOp, h88]; simp [go_sem]) ⟨rfl, hC, Nat.le_refl _, fun _ _ _ h _ => h⟩
    · intro A W hC hg hb
      exact does_value (v := .pointer (some ⟨W.heap.size, 0, none⟩)) (w' := W.alloc (.cells #[.int .i64 0, .int .i64 0, .slice none 0 0] 31)) (by simp [execOp, go_sem]) ⟨⟨_, rfl, hC.size, heap_alloc_new W _⟩, below_more hC _, (below_more (Below.refl _ W) _).size, fun _ _ _ h _ => h.on (below_more (Below.refl _ W) _) h.lt⟩
    · intro A W hC hg hb
      have g9 := hg 9 16 (by decide) rfl (by simp [Op.operands]) (by kernel_rfl) rfl
      have g7 := hg 7 95 (by decide) rfl (by simp [Op.operands]) (by kernel_rfl) rfl
      obtain ⟨X, h16, hlo, hX⟩ := g9
      obtain ⟨va, vc, h95, ho⟩ := g7
      have c0 := hX.cell (j := 0) rfl
      have c1 := hX.cell (j := 1) rfl
      have c2 := hX.cell (j := 2) rfl
      have f0 := hX.thaw 0
      have f1 := hX.thaw 1
      have f2 := hX.thaw 2
      have hX3 := ((hX.set 0 (.int .i64 S)).set 1 (.int .i64 T)).set 2 (.slice va AN.length vc)
      have far : ∀ q ty cs, BlockIs W q ty cs → ty ≠ 31 → BlockIs (((W.setCell ⟨X, 0, none⟩ (.int .i64 S)).setCell ⟨X, 1, none⟩ (.int .i64 T)).setCell ⟨X, 2, none⟩ (.slice va AN.length vc)) q ty cs := fun q ty cs hq hne => by
        have hqX : X ≠ q := by intro e; subst e; exact hne (block_one hq hX).1
        exact ((hq.far hqX _).far hqX _).far hqX _
      refine does_skip (w' := ((W.setCell ⟨X, 0, none⟩ (.int .i64 S)).setCell ⟨X, 1, none⟩ (.int .i64 T)).setCell ⟨X, 2, none⟩ (.slice va AN.length vc)) (by simp only [execOp, h16, h95]; simp [go_sem, c0, c1, c2, f0, f1, f2]) ⟨⟨X, va, vc, h16, hlo, hX3, ?_⟩, ((hC.setCell hlo _).setCell hlo _).setCell hlo _, ?_, fun q ty cs hq hne => far q ty cs hq (hne rfl)⟩
      · exact ho.ext (by simp [World.size_setCell]) (fun g r h => far g _ _ h (by decide))
      · simp [World.size_setCell]
    · intro A W hC hg hb
      have h96 : A.eval (.tmp 96) = .bool ok := hg 8 96 (by decide) rfl (by simp [Op.operands]) (by kernel_rfl) rfl
      exact does_value (v := .bool ok) (w' := W) (by simp only [execOp, h96]; simp [go_sem]) ⟨rfl, hC, Nat.le_refl _, fun _ _ _ h _ => h⟩
  intro vs w12 hC hg
  obtain ⟨B12, v12, c12, hu, hlo, hX, ho⟩ := hg 10 (by decide) (fun k => by simp)
  have hok := hg 11 (by decide) (fun k => by simp)
  change vs 9 = _ at hu
  change vs 11 = _ at hok
  clear hg
  change Exit.then _ _ _ (laidBy _ vs _ 12 _) w12
  simp only [laidBy, if_true, dstAt, List.getElem?_toArray, List.getElem?_cons_succ, List.getElem?_cons_zero, Option.bind_some]
  simp only [Act.put, List.setIfInBounds_toArray, List.set_cons_succ, List.set_cons_zero]
  rw [hu, hok]
  clear hu hok
  have O12 := hid hC.size
  have O12c := hid hX.lt
  have O12d := hid hlo
  have X_p_12 := hid (X_p_11.out.on hC X_p_11.out.lt)
  have X_e_12 := hid (X_e_11.out.on hC X_e_11.out.lt)
  have B_12 := hid (below_via B_11.out hC)
  have X_w_12 := hid (X_w_11.out.on hC X_w_11.out.lt)
  have R_w_12 := hid (R_w_11.out.on hC)
  have X_x_12 := hid (X_x_11.out.on hC X_x_11.out.lt)
  have X_g_12 := hid (X_g_11.out.on hC X_g_11.out.lt)
  have M_12 := hid (M_11.out.on hC)
  have X_h_12 := hid hX
  have R_h_12 := hid ho
  clear hC hX ho hlo X_p_11 X_e_11 B_11 X_w_11 R_w_11 X_x_11 X_g_11 M_11
  clear cX_p0_11 cX_p1_11 cX_p2_11 cX_e0_11 cX_e1_11 cX_e2_11 cX_w0_11 cX_w1_11 cX_w2_11 cX_x0_11 cX_x1_11 cX_x2_11 cX_g0_11 cX_g1_11 cX_g2_11
  have cX_p0_12 := X_p_12.out.cell (j := 0) rfl
  have cX_p1_12 := X_p_12.out.cell (j := 1) rfl
  have cX_p2_12 := X_p_12.out.cell (j := 2) rfl
  have cX_e0_12 := X_e_12.out.cell (j := 0) rfl
  have cX_e1_12 := X_e_12.out.cell (j := 1) rfl
  have cX_e2_12 := X_e_12.out.cell (j := 2) rfl
  have cX_w0_12 := X_w_12.out.cell (j := 0) rfl
  have cX_w1_12 := X_w_12.out.cell (j := 1) rfl
  have cX_w2_12 := X_w_12.out.cell (j := 2) rfl
  have cX_x0_12 := X_x_12.out.cell (j := 0) rfl
  have cX_x1_12 := X_x_12.out.cell (j := 1) rfl
  have cX_x2_12 := X_x_12.out.cell (j := 2) rfl
  have cX_g0_12 := X_g_12.out.cell (j := 0) rfl
  have cX_g1_12 := X_g_12.out.cell (j := 1) rfl
  have cX_g2_12 := X_g_12.out.cell (j := 2) rfl
  have cX_h0_12 := X_h_12.out.cell (j := 0) rfl
  have cX_h1_12 := X_h_12.out.cell (j := 1) rfl
  have cX_h2_12 := X_h_12.out.cell (j := 2) rfl
  go_wp2_with fail
  refine Calls.mono (eqLog_o S T v12 v3 AN c12 c3 (by omega) _ R_h_12.out.ents R_w_12.out.ents) ?_
  rintro e w13 ⟨rfl, b13⟩
  have O13 := hid b13.size
  have X_p_13 := hid (X_p_12.out.on b13 X_p_12.out.lt)
  have X_e_13 := hid (X_e_12.out.on b13 X_e_12.out.lt)
  have B_13 := hid (below_via B_12.out b13)
  have X_w_13 := hid (X_w_12.out.on b13 X_w_12.out.lt)
  have R_w_13 := hid (R_w_12.out.on b13)
  have X_x_13 := hid (X_x_12.out.on b13 X_x_12.out.lt)
  have X_g_13 := hid (X_g_12.out.on b13 X_g_12.out.lt)
  have M_13 := hid (M_12.out.on b13)
  have X_h_13 := hid (X_h_12.out.on b13 X_h_12.out.lt)
  have R_h_13 := hid (R_h_12.out.on b13)
  clear b13 X_p_12 X_e_12 B_12 X_w_12 R_w_12 X_x_12 X_g_12 M_12 X_h_12 R_h_12 cX_p0_12 cX_p1_12 cX_p2_12 cX_e0_12 cX_e1_12 cX_e2_12 cX_w0_12 cX_w1_12 cX_w2_12 cX_x0_12 cX_x1_12 cX_x2_12 cX_g0_12 cX_g1_12 cX_g2_12 cX_h0_12 cX_h1_12 cX_h2_12
  have cX_p0_13 := X_p_13.out.cell (j := 0) rfl
  have cX_p1_13 := X_p_13.out.cell (j := 1) rfl
  have cX_p2_13 := X_p_13.out.cell (j := 2) rfl
  have cX_e0_13 := X_e_13.out.cell (j := 0) rfl
  have cX_e1_13 := X_e_13.out.cell (j := 1) rfl
  have cX_e2_13 := X_e_13.out.cell (j := 2) rfl
  have cX_w0_13 := X_w_13.out.cell (j := 0) rfl
  have cX_w1_13 := X_w_13.out.cell (j := 1) rfl
  have cX_w2_13 := X_w_13.out.cell (j := 2) rfl
  have cX_x0_13 := X_x_13.out.cell (j := 0) rfl
  have cX_x1_13 := X_x_13.out.cell (j := 1) rfl
  have cX_x2_13 := X_x_13.out.cell (j := 2) rfl
  have cX_g0_13 := X_g_13.out.cell (j := 0) rfl
  have cX_g1_13 := X_g_13.out.cell (j := 1) rfl
  have cX_g2_13 := X_g_13.out.cell (j := 2) rfl
  have cX_h0_13 := X_h_13.out.cell (j := 0) rfl
  have cX_h1_13 := X_h_13.out.cell (j := 1) rfl
  have cX_h2_13 := X_h_13.out.cell (j := 2) rfl
  go_wp2_with fail
  refine Calls.mono (heldLog_any S T v5 AN.length c5 1 (by omega) hA2 _ M_13.out) ?_
  rintro e w14 ⟨rfl, b14⟩
  have O14 := hid b14.size
  have X_p_14 := hid (X_p_13.out.on b14 X_p_13.out.lt)
  have X_e_14 := hid (X_e_13.out.on b14 X_e_13.out.lt)
  have B_14 := hid (below_via B_13.out b14)
  have X_w_14 := hid (X_w_13.out.on b14 X_w_13.out.lt)
  have R_w_14 := hid (R_w_13.out.on b14)
  have X_x_14 := hid (X_x_13.out.on b14 X_x_13.out.lt)
  have X_g_14 := hid (X_g_13.out.on b14 X_g_13.out.lt)
  have M_14 := hid (M_13.out.on b14)
  have X_h_14 := hid (X_h_13.out.on b14 X_h_13.out.lt)
  have R_h_14 := hid (R_h_13.out.on b14)
  clear b14 X_p_13 X_e_13 B_13 X_w_13 R_w_13 X_x_13 X_g_13 M_13 X_h_13 R_h_13 cX_p0_13 cX_p1_13 cX_p2_13 cX_e0_13 cX_e1_13 cX_e2_13 cX_w0_13 cX_w1_13 cX_w2_13 cX_x0_13 cX_x1_13 cX_x2_13 cX_g0_13 cX_g1_13 cX_g2_13 cX_h0_13 cX_h1_13 cX_h2_13
  have cX_p0_14 := X_p_14.out.cell (j := 0) rfl
  have cX_p1_14 := X_p_14.out.cell (j := 1) rfl
  have cX_p2_14 := X_p_14.out.cell (j := 2) rfl
  have cX_e0_14 := X_e_14.out.cell (j := 0) rfl
  have cX_e1_14 := X_e_14.out.cell (j := 1) rfl
  have cX_e2_14 := X_e_14.out.cell (j := 2) rfl
  have cX_w0_14 := X_w_14.out.cell (j := 0) rfl
  have cX_w1_14 := X_w_14.out.cell (j := 1) rfl
  have cX_w2_14 := X_w_14.out.cell (j := 2) rfl
  have cX_x0_14 := X_x_14.out.cell (j := 0) rfl
  have cX_x1_14 := X_x_14.out.cell (j := 1) rfl
  have cX_x2_14 := X_x_14.out.cell (j := 2) rfl
  have cX_g0_14 := X_g_14.out.cell (j := 0) rfl
  have cX_g1_14 := X_g_14.out.cell (j := 1) rfl
  have cX_g2_14 := X_g_14.out.cell (j := 2) rfl
  have cX_h0_14 := X_h_14.out.cell (j := 0) rfl
  have cX_h1_14 := X_h_14.out.cell (j := 1) rfl
  have cX_h2_14 := X_h_14.out.cell (j := 2) rfl
  go_wp2
  go_ret
  exact ⟨rfl, B_14.out⟩

theorem own : ownKnob Try.prog.godebug = none := by kernel_rfl
theorem laidOut : laidOutB Try.prog = true := by kernel_rfl
theorem rowed : varsRowed Try.prog Rows.fnExactLogPutSpec.vars = true := by kernel_rfl
set_option maxRecDepth 1000000 in
theorem contract (H : Type) (enc : TypeId × Value → H) (W : World) (base : Nat) (args : Array Value) (ds gs : List (DataW H)) (before : List MemPlace)
    (hval : ∀ (j : Nat) t v, Try.f3.params[j]? = some t → args[j]? = some v → Value.okWide Try.prog W .any base t v)
    (hW : DataW.Whole enc Try.prog Try.f3.params.toList Rows.fnExactLogPutSpec.vars false W args.toList ds gs before) (_hL : laidMetH Try.prog Rows.fnExactLogPutRow.laid W) :
    Calls Try.prog 3 args W fun e W' => ∃ v, e = .returned v ∧ Rows.fnExactLogPutSpec.post enc Try.prog Try.f3 false true false false W args v W' := by
  have hW' := hW
  obtain ⟨p, q, hA0, hV0, rfl, hfz, hnd⟩ := hW
  have hV : DataW.TrodVars enc Try.prog W (fun _ => true) Rows.fnExactLogPutSpec.vars gs q := hV0
  have hA : DataW.TrodAll enc Try.prog W 0 (fun _ => true) true Try.f3.params.toList args.toList ds p := hA0
  rw [Try.params3] at hA hval
  obtain ⟨v0, vs0, d0, ds0, p0, q0, hargs0, rfl, rfl, h0, r0⟩ := trodAll_cons hA
  obtain ⟨v1, vs1, d1, ds1, p1, q1, hargs1, rfl, rfl, h1, r1⟩ := trodAll_cons r0
  subst hargs1
  obtain ⟨v2, vs2, d2, ds2, p2, q2, hargs2, rfl, rfl, h2, r2⟩ := trodAll_cons r1
  subst hargs2
  obtain ⟨rfl, rfl, rfl⟩ := trodAll_nil r2
  obtain rfl : args = #[v0, v1, v2] := by cases args; simp_all
  have k0 := h0
  have lt0 : ∀ x ∈ p0, x.block < W.heap.size := by obtain ⟨m, hm⟩ := k0; exact DataW.trod_lt m _ _ _ hm
  obtain ⟨s0, t0, a0, l0, cap0, rfl, hs0, ht0, hc0, hm0, hat0, hfit0⟩ := open_log (hval 0 24 v0 rfl rfl) h0
  obtain ⟨a1, rfl, rfl, rfl, w1⟩ := open_int Try.underlying3 (hval 1 3 v1 rfl rfl) h1
  have k2 := h2
  have lt2 : ∀ x ∈ p2, x.block < W.heap.size := by obtain ⟨m, hm⟩ := k2; exact DataW.trod_lt m _ _ _ hm
  obtain ⟨a2, rfl, hf2⟩ := open_entry (hval 2 26 v2 rfl rfl) h2
  clear hA0 hV0
  obtain ⟨rfl, rfl⟩ := trodVars_none hV
  refine (walk s0 t0 hs0 ht0 a0 l0 cap0 (Nat.le_trans hc0 hm0) hfit0 a1 w1 a2 hf2 W hat0).mono fun e W' ⟨he, bel⟩ => ?_
  subst he
  exact ⟨_, rfl, _, _, _, [], _, [], hW', trodAll_mk1 (shut_bool Try.underlying4 _), trodAll_cons_mk (Below.trod laidOut (by kernel_rfl) (of_decide_eq_true (by kernel_rfl)) k0 bel lt0) (trodAll_cons_mk (shut_int Try.underlying3 w1) (trodAll_cons_mk (Below.trod laidOut (by kernel_rfl) (of_decide_eq_true (by kernel_rfl)) k2 bel lt2) (trodAll_mk0))), rfl, bel.frame _, fun h => by cases h⟩

def put (cs : Array Value) : Obj → Obj
  | .cells _ t frozen => .cells cs t frozen
  | o => o

/-- a world for the witness: the tables hold what their initialisers lay -/
def laidWorld (w : World) : World := { w with heap := w.heap }
theorem laid_met (os : Os) : laidMet Try.prog Rows.fnExactLogPutRow.laid ((laidWorld (World.holding Try.prog os ⟨#[], #[], []⟩)).forCall (fun _ _ => 0) ⟨#[], #[.agg #[.int .i64 0, .int .i64 0, .slice none 0 0], .int .i64 0, .agg #[.int .i64 0, .int .i64 0, .string ByteArray.empty]], []⟩).memory :=
  laidMet_of_run' 8 (by kernel_rfl) (by kernel_rfl)
theorem reads (os : Os) {H : Type} (enc : TypeId × Value → H) : ∃ places, DataW.whole enc Try.prog ((laidWorld (World.holding Try.prog os ⟨#[], #[], []⟩)).forCall (fun _ _ => 0) ⟨#[], #[.agg #[.int .i64 0, .int .i64 0, .slice none 0 0], .int .i64 0, .agg #[.int .i64 0, .int .i64 0, .string ByteArray.empty]], []⟩).memory Try.f3.params.toList Rows.fnExactLogPutSpec.vars false #[Value.agg #[.int .i64 0, .int .i64 0, .slice none 0 0], .int .i64 0, .agg #[.int .i64 0, .int .i64 0, .string ByteArray.empty]].toList 8 = some ([.agg [.lit (.int .i64 0), .lit (.int .i64 0), .nil], .lit (.int .i64 0), .agg [.lit (.int .i64 0), .lit (.int .i64 0), .lit (.string [])]], [], places) :=
  ⟨[], by kernel_rfl⟩

set_option maxRecDepth 1000000 in
theorem lifted (os : Os) (started : os.Started) (H : Type) (enc : TypeId × Value → H) (F : Stop.Interp) :
    ReturnsInHanded {} Try.checked os 3 .any ((OpenSpec.ofChange Rows.fnExactLogPutSpec).preRow enc Try.prog Try.f3 Rows.fnExactLogPutRow.domain false Rows.fnExactLogPutRow.laid) (((OpenSpec.ofChange Rows.fnExactLogPutSpec).at F).post enc Try.prog Try.f3 false true false false) := by
  obtain ⟨places, hx⟩ := reads os enc
  refine returnsInHanded_of_row (C := Try.checked) (s := OpenSpec.ofChange Rows.fnExactLogPutSpec) own started (by kernel_rfl) Try.func3
    (witness_row_at (enc := enc) (C := Try.checked) false (laidWorld (World.holding Try.prog os ⟨#[], #[], []⟩)) #[.agg #[.int .i64 0, .int .i64 0, .slice none 0 0], .int .i64 0, .agg #[.int .i64 0, .int .i64 0, .string ByteArray.empty]] rfl (by kernel_rfl) (by kernel_rfl) (by kernel_rfl)
      (OpenSpec.preRow_of_cond 8 hx (by kernel_rfl) (fun k hk => by cases hk) (by kernel_rfl) (laid_met os))) ?_
  intro W base args ds gs before hval hW _ _ _ hL _ _
  exact contract H enc W base args ds gs before hval hW hL

theorem said : Rows.FnExactLogPutSaid :=
  OpenClaim.holds_of_cond 3 Try.f3 rfl rfl rfl rfl rfl rfl rfl ⟨rfl, rfl, rfl, rfl, rfl⟩ rfl rfl rfl rfl rfl (by kernel_rfl) Try.func3 (by kernel_rfl)
    (of_decide_eq_true (by kernel_rfl)) (by unfold Func.isWrapper; first | (rw [if_pos (by decide +kernel)]; kernel_rfl) | (rw [if_neg (by decide +kernel)]; exact ⟨rfl, rfl⟩))
    (fun os started H enc _ F => by rw [OpenClaim.pre_eq_preRow]; exact lifted os started H enc F)

end Go.Proofs.Ytjkgjnpifdafaaa.fnExactLogPut
