/-
  The walk of spec.l09Copy: a ring is laid anew, in memory of its own.
-/
import Derived.Test.YtbajffpkfjkolaaSlotsRow
import Derived.Test.YtbajffpkfjkolaaAnyOrder
namespace Go.Proofs.Ytbajffpkfjkolaa
open Go.RowKit

set_option maxRecDepth 1000000 in
set_option maxHeartbeats 4000000 in
theorem l09Copy_any (s t : Int) (ao : Option Addr) (l : List SlotD) (cap : Nat) (hl : l.length ≤ 1048576) (w : World) (ha : SlotsAt w ao l) :
    Calls Try.prog 31 #[.agg #[.slice ao l.length cap, .int .i64 s, .int .i64 t]] w fun e w' => ∃ va vc, e = .returned (.agg #[.slice va l.length vc, .int .i64 s, .int .i64 t]) ∧ l.length ≤ vc ∧ OwnAt w' 42 (slotCells l) l.length va w.heap.size w'.heap.size ∧ Below w.heap.size w w' := by
  have hx0 : BlockIs ((w.alloc (.cells #[.slice ao l.length cap, .int .i64 s, .int .i64 t] 26)).alloc (.cells #[.slice none 0 0, .int .i64 0, .int .i64 0] 26)) w.heap.size 26 [.slice ao l.length cap, .int .i64 s, .int .i64 t] := by
    show ((w.heap.push _).push _)[w.heap.size]? = some _
    rw [Array.getElem?_push, if_neg (by simp), Array.getElem?_push, if_pos rfl]
  have hx1 : BlockIs ((w.alloc (.cells #[.slice ao l.length cap, .int .i64 s, .int .i64 t] 26)).alloc (.cells #[.slice none 0 0, .int .i64 0, .int .i64 0] 26)) (w.heap.size + 1) 26 [.slice none 0 0, .int .i64 0, .int .i64 0] := by
    show ((w.heap.push _).push _)[w.heap.size + 1]? = some _
    rw [Array.getElem?_push, if_pos (by simp)]
  have hb0 := below_more (below_more (Below.refl w.heap.size w) (.cells #[.slice ao l.length cap, .int .i64 s, .int .i64 t] 26)) (.cells #[.slice none 0 0, .int .i64 0, .int .i64 0] 26)
  obtain ⟨WW, hWW⟩ : ∃ WW, (w.alloc (.cells #[.slice ao l.length cap, .int .i64 s, .int .i64 t] 26)).alloc (.cells #[.slice none 0 0, .int .i64 0, .int .i64 0] 26) = WW := ⟨_, rfl⟩
  rw [hWW] at hx0 hx1 hb0
  have X0 := hid hx0
  have X1 := hid hx1
  have B0 := hid hb0
  have HA := hid ha
  clear hx0 hx1 hb0 ha
  go_enter Try.func31, Try.ntmps31
  go_wp2
  refine wp_region_each (N := 12) (by kernel_rfl) (by kernel_rfl) rfl (by kernel_rfl) (fun W => Below w.heap.size w W ∧ BlockIs W (w.heap.size) 26 [.slice ao l.length cap, .int .i64 s, .int .i64 t] ∧ ∃ cs, cs.length = 3 ∧ BlockIs W (w.heap.size + 1) 26 cs) (fun j v _ W => match j with | 0 => ∃ g, v = .slice (some ⟨g, 0, none⟩) 0 0 ∧ (w.heap.size + 1 + 1) ≤ g ∧ BlockIs W g 42 [] | 1 => v = .pointer (some ⟨w.heap.size, 0, none⟩) | 2 => v = .slice ao l.length cap | 3 => ∃ va vc, v = .slice va l.length vc ∧ l.length ≤ vc ∧ OwnAt W 42 (slotCells l) l.length va (w.heap.size + 1 + 1) W.heap.size | 4 => v = .pointer (some ⟨w.heap.size, 1, none⟩) | 5 => v = .int .i64 s | 6 => v = .pointer (some ⟨w.heap.size, 2, none⟩) | 7 => v = .int .i64 t | 8 => ∃ va vc, v = .agg #[.slice va l.length vc, .int .i64 s, .int .i64 t] ∧ l.length ≤ vc ∧ OwnAt W 42 (slotCells l) l.length va (w.heap.size + 1 + 1) W.heap.size | 9 => ∃ va vc, BlockIs W (w.heap.size + 1) 26 [.slice va l.length vc, .int .i64 s, .int .i64 t] ∧ l.length ≤ vc ∧ OwnAt W 42 (slotCells l) l.length va (w.heap.size + 1 + 1) W.heap.size | _ => True) (fun i => i) (fun j i => decide ((j, i) ∈ ([(0, 3)] : List (Nat × Nat)))) (fun i x y => x.heap.size ≤ y.heap.size ∧ ∀ g ty cs, BlockIs x g ty cs → (i = 3 → cs ≠ []) → (i = 9 → ty ≠ 26) → BlockIs y g ty cs) (fun _ => 0) (by kernel_rfl) (fun _ _ => rfl) ?_ ⟨below_drewN B0.out 1, X0.out.on (below_drewN (Below.refl _ _) 1) X0.out.lt, _, rfl, X1.out.on (below_drewN (Below.refl _ _) 1) X1.out.lt⟩ ?_ ?_
  · intro i j v u x y hij hdd hwt hxy hg
    match j, hg with
    | 0, hg =>
      obtain ⟨g, e1, e2, e3⟩ := hg
      simp at hdd
      exact ⟨g, e1, e2, hxy.2 _ _ _ e3 (fun e => absurd e hdd) (fun _ => by decide)⟩
    | 1, hg => exact hg
    | 2, hg => exact hg
    | 3, hg =>
      obtain ⟨va, vc, e1, e0, e2⟩ := hg
      exact ⟨va, vc, e1, e0, e2.ext hxy.1 fun g r h => hxy.2 _ _ _ h (fun e => absurd e hij) (fun _ => by decide)⟩
    | 4, hg => exact hg
    | 5, hg => exact hg
    | 6, hg => exact hg
    | 7, hg => exact hg
    | 8, hg =>
      obtain ⟨va, vc, e1, e0, e2⟩ := hg
      have h3 : i ≠ 3 := by rintro rfl; exact Bool.noConfusion (hwt.symm.trans (by kernel_rfl : waitsB _ 8 3 = true))
      exact ⟨va, vc, e1, e0, e2.ext hxy.1 fun g r h => hxy.2 _ _ _ h (fun e => absurd e h3) (fun _ => by decide)⟩
    | 9, hg =>
      obtain ⟨va, vc, e1, e0, e2⟩ := hg
      have h3 : i ≠ 3 := by rintro rfl; exact Bool.noConfusion (hwt.symm.trans (by kernel_rfl : waitsB _ 9 3 = true))
      exact ⟨va, vc, hxy.2 _ _ _ e1 (fun _ => by simp) (fun e => absurd e hij), e0, e2.ext hxy.1 fun g r h => hxy.2 _ _ _ h (fun e => absurd e h3) (fun _ => by decide)⟩
    | n + 10, _ => exact trivial
  · refine ⟨?_, ?_, ?_, ?_, ?_, ?_, ?_, ?_, ?_, ?_, trivial⟩
    · intro A W hC hg hb
      obtain ⟨k1, k2, cs, k3, k4⟩ := hC
      have hbm := below_more (Below.refl W.heap.size W) (.cells #[] 42)
      exact does_value (v := .slice (some ⟨W.heap.size, 0, none⟩) 0 0) (w' := W.alloc (.cells #[] 42)) (by simp [execOp, go_sem]) ⟨⟨_, rfl, k4.lt, heap_alloc_new W _⟩, ⟨below_more k1 _, k2.on hbm k2.lt, cs, k3, k4.on hbm k4.lt⟩, hbm.size, fun _ _ _ h _ _ => h.on hbm h.lt⟩
    · intro A W hC hg hb
      have h1 : A.eval (.tmp 1) = .pointer (some ⟨w.heap.size, 0, none⟩) := hb 1 (base_of (by kernel_rfl))
      exact does_value (v := .pointer (some ⟨w.heap.size, 0, none⟩)) (w' := W) (by simp only [execOp, h1]; simp [go_sem]) ⟨rfl, hC, Nat.le_refl _, fun _ _ _ h _ _ => h⟩
    · intro A W hC hg hb
      have h4 : A.eval (.tmp 4) = .pointer (some ⟨w.heap.size, 0, none⟩) := hg 1 4 (by decide) rfl (by simp [Op.operands]) (by kernel_rfl) rfl
      have hc := hC.2.1.cell (j := 0) rfl
      exact does_value (v := .slice ao l.length cap) (w' := W) (by simp only [execOp, h4]; simp [go_sem, hc]) ⟨rfl, hC, Nat.le_refl _, fun _ _ _ h _ _ => h⟩
    · intro A W hC hg hb
      have g0 := hg 0 3 (by decide) rfl (by simp [Op.operands, Call.operands]) (by kernel_rfl) rfl
      have h5 : A.eval (.tmp 5) = .slice ao l.length cap := hg 2 5 (by decide) rfl (by simp [Op.operands, Call.operands]) (by kernel_rfl) rfl
      obtain ⟨g, h3, hlo, hbl⟩ := g0
      obtain ⟨k1, k2, cs, k3, k4⟩ := hC
      obtain ⟨v', W', hr, h2, h3'⟩ := append_slots hbl (c := cap) (by omega) (HA.out.on k1)
      obtain ⟨va, vc, rfl, hvc, ho⟩ := own_of_slotRow h2
      have hk : ∀ q ty cs, BlockIs W q ty cs → cs ≠ [] → BlockIs W' q ty cs := fun q ty cs hq hne => by
        have hqg : q ≠ g := by intro e; subst e; exact hne (block_one hq hbl).2
        unfold BlockIs
        rw [h3'.block q hq.lt (by simpa using hqg)]
        exact hq
      refine does_value (v := .slice va l.length vc) (w' := W') (by simp only [execOp, resolve, invoke, builtin, Sem.run_bind, Sem.run_pure, Result.andThen_ok, List.map_toArray, List.map_cons, List.map_nil, h3, h5, hr]) ⟨⟨va, vc, rfl, hvc, ho.down hlo (Nat.le_refl _)⟩, ⟨k1.grown h3' k1.size (fun j hj => by cases hj; omega), hk _ _ _ k2 (by simp), cs, k3, hk _ _ _ k4 (by intro e; rw [e] at k3; cases k3)⟩, h3'.size, fun q ty cs hq hne _ => hk q ty cs hq (hne rfl)⟩
    · intro A W hC hg hb
      have h1 : A.eval (.tmp 1) = .pointer (some ⟨w.heap.size, 0, none⟩) := hb 1 (base_of (by kernel_rfl))
      exact does_value (v := .pointer (some ⟨w.heap.size, 1, none⟩)) (w' := W) (by simp only [execOp, h1]; simp [go_sem]) ⟨rfl, hC, Nat.le_refl _, fun _ _ _ h _ _ => h⟩
    · intro A W hC hg hb
      have h7 : A.eval (.tmp 7) = .pointer (some ⟨w.heap.size, 1, none⟩) := hg 4 7 (by decide) rfl (by simp [Op.operands]) (by kernel_rfl) rfl
      have hc := hC.2.1.cell (j := 1) rfl
      exact does_value (v := .int .i64 s) (w' := W) (by simp only [execOp, h7]; simp [go_sem, hc]) ⟨rfl, hC, Nat.le_refl _, fun _ _ _ h _ _ => h⟩
    · intro A W hC hg hb
      have h1 : A.eval (.tmp 1) = .pointer (some ⟨w.heap.size, 0, none⟩) := hb 1 (base_of (by kernel_rfl))
      exact does_value (v := .pointer (some ⟨w.heap.size, 2, none⟩)) (w' := W) (by simp only [execOp, h1]; simp [go_sem]) ⟨rfl, hC, Nat.le_refl _, fun _ _ _ h _ _ => h⟩
    · intro A W hC hg hb
      have h9 : A.eval (.tmp 9) = .pointer (some ⟨w.heap.size, 2, none⟩) := hg 6 9 (by decide) rfl (by simp [Op.operands]) (by kernel_rfl) rfl
      have hc := hC.2.1.cell (j := 2) rfl
      exact does_value (v := .int .i64 t) (w' := W) (by simp only [execOp, h9]; simp [go_sem, hc]) ⟨rfl, hC, Nat.le_refl _, fun _ _ _ h _ _ => h⟩
    · intro A W hC hg hb
      have g3 := hg 3 6 (by decide) rfl (by simp [Op.operands]) (by kernel_rfl) rfl
      have h8 : A.eval (.tmp 8) = .int .i64 s := hg 5 8 (by decide) rfl (by simp [Op.operands]) (by kernel_rfl) rfl
      have h10 : A.eval (.tmp 10) = .int .i64 t := hg 7 10 (by decide) rfl (by simp [Op.operands]) (by kernel_rfl) rfl
      obtain ⟨va, vc, h6, hvc, ho⟩ := g3
      simp [go_sem] at h6 h8 h10
      refine does_value (v := .agg #[.slice va l.length vc, .int .i64 s, .int .i64 t]) (w' := W) (by simp [execOp, go_sem, h6, h8, h10]) ⟨⟨va, vc, rfl, hvc, ho⟩, hC, Nat.le_refl _, fun _ _ _ h _ _ => h⟩
    · intro A W hC hg hb
      have h2 : A.eval (.tmp 2) = .pointer (some ⟨w.heap.size + 1, 0, none⟩) := hb 2 (base_of (by kernel_rfl))
      have g8 := hg 8 11 (by decide) rfl (by simp [Op.operands]) (by kernel_rfl) rfl
      obtain ⟨va, vc, h11, hvc, ho⟩ := g8
      obtain ⟨k1, k2, cs, k3, k4⟩ := hC
      match cs, k3 with
      | [a0, a1, a2], _ =>
        have c0 := k4.cell (j := 0) rfl
        have c1 := k4.cell (j := 1) rfl
        have c2 := k4.cell (j := 2) rfl
        have f0 := k4.thaw 0
        have f1 := k4.thaw 1
        have f2 := k4.thaw 2
        have hX3 := ((k4.set 0 (.slice va l.length vc)).set 1 (.int .i64 s)).set 2 (.int .i64 t)
        have far : ∀ q ty cs, BlockIs W q ty cs → w.heap.size + 1 ≠ q → BlockIs (((W.setCell ⟨w.heap.size + 1, 0, none⟩ (.slice va l.length vc)).setCell ⟨w.heap.size + 1, 1, none⟩ (.int .i64 s)).setCell ⟨w.heap.size + 1, 2, none⟩ (.int .i64 t)) q ty cs := fun q ty cs hq hne => ((hq.far hne _).far hne _).far hne _
        have far2 : ∀ q ty cs, BlockIs W q ty cs → ty ≠ 26 → BlockIs (((W.setCell ⟨w.heap.size + 1, 0, none⟩ (.slice va l.length vc)).setCell ⟨w.heap.size + 1, 1, none⟩ (.int .i64 s)).setCell ⟨w.heap.size + 1, 2, none⟩ (.int .i64 t)) q ty cs := fun q ty cs hq hne => far q ty cs hq (by intro e; subst e; exact hne (block_one hq k4).1)
        refine does_skip (w' := ((W.setCell ⟨w.heap.size + 1, 0, none⟩ (.slice va l.length vc)).setCell ⟨w.heap.size + 1, 1, none⟩ (.int .i64 s)).setCell ⟨w.heap.size + 1, 2, none⟩ (.int .i64 t)) (by simp only [execOp, h2, h11]; simp [go_sem, c0, c1, c2, f0, f1, f2]) ⟨⟨va, vc, hX3, hvc, ?_⟩, ⟨((k1.setCell (by show _ ≤ _ + 1; omega) _).setCell (by show _ ≤ _ + 1; omega) _).setCell (by show _ ≤ _ + 1; omega) _, far _ _ _ k2 (by omega), _, rfl, hX3⟩, ?_, fun q ty cs hq _ hne => far2 q ty cs hq (hne rfl)⟩
        · exact ho.ext (by simp [World.size_setCell]) (fun g r h => far2 g _ _ h (by decide))
        · simp [World.size_setCell]
  · intro vs w4 hC hg
    obtain ⟨va, vc, g1, g0, g2⟩ := hg 9 (by decide) (fun k => by simp)
    clear hg
    change Exit.then _ _ _ (laidBy _ vs _ 10 _) w4
    simp only [laidBy, if_true, dstAt, List.getElem?_toArray, List.getElem?_cons_succ, List.getElem?_cons_zero, Option.bind_some]
    simp only [Act.put, List.setIfInBounds_toArray, List.set_cons_succ, List.set_cons_zero]
    have c0 := g1.cell (j := 0) rfl
    have c1 := g1.cell (j := 1) rfl
    have c2 := g1.cell (j := 2) rfl
    have BL := hid hC.1
    have G2 := hid (g2.down (show w.heap.size ≤ w.heap.size + 1 + 1 by omega) (Nat.le_refl _))
    have G0 := hid g0
    clear hC g1 g2 g0
    go_wp2
    refine bodyPost_ret (v := .agg #[.slice va l.length vc, .int .i64 s, .int .i64 t]) (by simp [results, Try.results31, go_sem, c0, c1, c2]) rfl ⟨va, vc, rfl, G0.out, G2.out, BL.out⟩
end Go.Proofs.Ytbajffpkfjkolaa
