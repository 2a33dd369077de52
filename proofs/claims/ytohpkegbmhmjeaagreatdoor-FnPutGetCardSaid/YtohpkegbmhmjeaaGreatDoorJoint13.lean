/-
  The walk of spec.l15Copy: a keep is laid anew, in memory of its own.
-/
import Derived.Test.YtohpkegbmhmjeaaGreatDoorJoint1
import Derived.Test.YtohpkegbmhmjeaaGreatDoorJoint11
namespace Go.Proofs.YtohpkegbmhmjeaaGreatDoor
open Go.RowKit

set_option maxRecDepth 1000000 in
set_option maxHeartbeats 4000000 in
theorem l15Copy_any (ao bo : Option Addr) (ls : List SessionD) (li : List ItemD) (ac bc : Nat) (hl : ls.length ≤ 1048576) (hl2 : li.length ≤ 1048576) (w : World) (ha : SessionsAt w ao ls) (hi : ItemsAt w bo li) :
    Calls Tryz.prog 36 #[.agg #[.slice ao ls.length ac, .slice bo li.length bc]] w fun e w' => ∃ va vc vb vd, e = .returned (.agg #[.slice va ls.length vc, .slice vb li.length vd]) ∧ KRows w' w.heap.size (.slice va ls.length vc) (.slice vb li.length vd) ls li ∧ Below w.heap.size w w' := by
  have hx0 : BlockIs ((w.alloc (.cells #[.slice ao ls.length ac, .slice bo li.length bc] 27)).alloc (.cells #[.slice none 0 0, .slice none 0 0] 27)) w.heap.size 27 [.slice ao ls.length ac, .slice bo li.length bc] := by
    show ((w.heap.push _).push _)[w.heap.size]? = some _
    rw [Array.getElem?_push, if_neg (by simp), Array.getElem?_push, if_pos rfl]
  have hx1 : BlockIs ((w.alloc (.cells #[.slice ao ls.length ac, .slice bo li.length bc] 27)).alloc (.cells #[.slice none 0 0, .slice none 0 0] 27)) (w.heap.size + 1) 27 [.slice none 0 0, .slice none 0 0] := by
    show ((w.heap.push _).push _)[w.heap.size + 1]? = some _
    rw [Array.getElem?_push, if_pos (by simp)]
  have hb0 := below_more (below_more (Below.refl w.heap.size w) (.cells #[.slice ao ls.length ac, .slice bo li.length bc] 27)) (.cells #[.slice none 0 0, .slice none 0 0] 27)
  obtain ⟨WW, hWW⟩ : ∃ WW, (w.alloc (.cells #[.slice ao ls.length ac, .slice bo li.length bc] 27)).alloc (.cells #[.slice none 0 0, .slice none 0 0] 27) = WW := ⟨_, rfl⟩
  rw [hWW] at hx0 hx1 hb0
  have X0 := hid hx0
  have X1 := hid hx1
  have B0 := hid hb0
  have HA := hid ha
  have HI := hid hi
  clear hx0 hx1 hb0 ha hi
  go_enter Tryz.func36, Tryz.ntmps36
  go_wp2
  refine wp_region_each (N := 12) (by kernel_rfl) (by kernel_rfl) rfl (by kernel_rfl) (fun W => Below w.heap.size w W ∧ BlockIs W (w.heap.size) 27 [.slice ao ls.length ac, .slice bo li.length bc] ∧ ∃ cs, cs.length = 2 ∧ BlockIs W (w.heap.size + 1) 27 cs) (fun j v _ W => match j with | 0 => v.ownBlock ≠ none ∧ W.ownsRow (w.heap.size + 1 + 1) 36 3 v 0 (sessionCells []) | 1 => v = .pointer (some ⟨w.heap.size, 0, none⟩) | 2 => v = .slice ao ls.length ac | 3 => ∃ va vc, v = .slice va ls.length vc ∧ W.ownsRow (w.heap.size + 1 + 1) 36 3 (.slice va ls.length vc) ls.length (sessionCells ls) | 4 => v.ownBlock ≠ none ∧ W.ownsRow (w.heap.size + 1 + 1) 41 3 v 0 (itemCells []) | 5 => v = .pointer (some ⟨w.heap.size, 1, none⟩) | 6 => v = .slice bo li.length bc | 7 => ∃ vb vd, v = .slice vb li.length vd ∧ W.ownsRow (w.heap.size + 1 + 1) 41 3 (.slice vb li.length vd) li.length (itemCells li) | 8 => ∃ va vc vb vd, v = .agg #[.slice va ls.length vc, .slice vb li.length vd] ∧ W.ownsRow (w.heap.size + 1 + 1) 36 3 (.slice va ls.length vc) ls.length (sessionCells ls) ∧ W.ownsRow (w.heap.size + 1 + 1) 41 3 (.slice vb li.length vd) li.length (itemCells li) | 9 => ∃ va vc vb vd, BlockIs W (w.heap.size + 1) 27 [.slice va ls.length vc, .slice vb li.length vd] ∧ W.ownsRow (w.heap.size + 1 + 1) 36 3 (.slice va ls.length vc) ls.length (sessionCells ls) ∧ W.ownsRow (w.heap.size + 1 + 1) 41 3 (.slice vb li.length vd) li.length (itemCells li) | _ => True) (fun i => i) (fun j i => decide ((j, i) ∈ ([(0, 3), (4, 7)] : List (Nat × Nat)))) (fun i x y => x.heap.size ≤ y.heap.size ∧ ∀ g ty cs, BlockIs x g ty cs → (i = 3 → ty ≠ 36) → (i = 7 → ty ≠ 41) → (i = 9 → ty ≠ 27) → BlockIs y g ty cs) (fun _ => 0) (by kernel_rfl) (fun _ _ => rfl) ?_ ⟨below_drewN B0.out 1, X0.out.on (below_drewN (Below.refl _ _) 1) X0.out.lt, _, rfl, X1.out.on (below_drewN (Below.refl _ _) 1) X1.out.lt⟩ ?_ ?_
  · intro i j v u x y hij hdd hwt hxy hg
    match j, hg with
    | 0, hg =>
      simp at hdd
      exact ⟨hg.1, row_ext hg.2 fun g cs h => hxy.2 _ _ _ h (fun e => absurd e hdd) (fun _ => by decide) (fun _ => by decide)⟩
    | 1, hg => exact hg
    | 2, hg => exact hg
    | 3, hg =>
      obtain ⟨va, vc, e1, e2⟩ := hg
      exact ⟨va, vc, e1, row_ext e2 fun g cs h => hxy.2 _ _ _ h (fun e => absurd e hij) (fun _ => by decide) (fun _ => by decide)⟩
    | 4, hg =>
      simp at hdd
      exact ⟨hg.1, row_ext hg.2 fun g cs h => hxy.2 _ _ _ h (fun _ => by decide) (fun e => absurd e hdd) (fun _ => by decide)⟩
    | 5, hg => exact hg
    | 6, hg => exact hg
    | 7, hg =>
      obtain ⟨va, vc, e1, e2⟩ := hg
      exact ⟨va, vc, e1, row_ext e2 fun g cs h => hxy.2 _ _ _ h (fun _ => by decide) (fun e => absurd e hij) (fun _ => by decide)⟩
    | 8, hg =>
      obtain ⟨va, vc, vb, vd, e1, e2, e3⟩ := hg
      have h3 : i ≠ 3 := by rintro rfl; exact Bool.noConfusion (hwt.symm.trans (by kernel_rfl : waitsB _ 8 3 = true))
      have h7 : i ≠ 7 := by rintro rfl; exact Bool.noConfusion (hwt.symm.trans (by kernel_rfl : waitsB _ 8 7 = true))
      exact ⟨va, vc, vb, vd, e1, row_ext e2 fun g cs h => hxy.2 _ _ _ h (fun e => absurd e h3) (fun e => absurd e h7) (fun _ => by decide), row_ext e3 fun g cs h => hxy.2 _ _ _ h (fun e => absurd e h3) (fun e => absurd e h7) (fun _ => by decide)⟩
    | 9, hg =>
      obtain ⟨va, vc, vb, vd, e1, e2, e3⟩ := hg
      have h3 : i ≠ 3 := by rintro rfl; exact Bool.noConfusion (hwt.symm.trans (by kernel_rfl : waitsB _ 9 3 = true))
      have h7 : i ≠ 7 := by rintro rfl; exact Bool.noConfusion (hwt.symm.trans (by kernel_rfl : waitsB _ 9 7 = true))
      exact ⟨va, vc, vb, vd, hxy.2 _ _ _ e1 (fun e => absurd e h3) (fun e => absurd e h7) (fun e => absurd e hij), row_ext e2 fun g cs h => hxy.2 _ _ _ h (fun e => absurd e h3) (fun e => absurd e h7) (fun _ => by decide), row_ext e3 fun g cs h => hxy.2 _ _ _ h (fun e => absurd e h3) (fun e => absurd e h7) (fun _ => by decide)⟩
    | n + 10, _ => exact trivial
  · refine ⟨?_, ?_, ?_, ?_, ?_, ?_, ?_, ?_, ?_, ?_, trivial⟩
    · intro A W hC hg hb
      obtain ⟨k1, k2, cs, k3, k4⟩ := hC
      have hbm := below_more (Below.refl W.heap.size W) (.cells #[] 36)
      exact does_value (v := .slice (some ⟨W.heap.size, 0, none⟩) 0 0) (w' := W.alloc (.cells #[] 36)) (by simp [execOp, go_sem]) ⟨⟨by simp [Value.ownBlock], sessionR_nil W _ k4.lt⟩, ⟨below_more k1 _, k2.on hbm k2.lt, cs, k3, k4.on hbm k4.lt⟩, hbm.size, fun _ _ _ h _ _ _ => h.on hbm h.lt⟩
    · intro A W hC hg hb
      have h1 : A.eval (.tmp 1) = .pointer (some ⟨w.heap.size, 0, none⟩) := hb 1 (base_of (by kernel_rfl))
      exact does_value (v := .pointer (some ⟨w.heap.size, 0, none⟩)) (w' := W) (by simp only [execOp, h1]; simp [go_sem]) ⟨rfl, hC, Nat.le_refl _, fun _ _ _ h _ _ _ => h⟩
    · intro A W hC hg hb
      have h4 : A.eval (.tmp 4) = .pointer (some ⟨w.heap.size, 0, none⟩) := hg 1 4 (by decide) rfl (by simp [Op.operands]) (by kernel_rfl) rfl
      have hc := hC.2.1.cell (j := 0) rfl
      exact does_value (v := .slice ao ls.length ac) (w' := W) (by simp only [execOp, h4]; simp [go_sem, hc]) ⟨rfl, hC, Nat.le_refl _, fun _ _ _ h _ _ _ => h⟩
    · intro A W hC hg hb
      have g0 := hg 0 3 (by decide) rfl (by simp [Op.operands, Call.operands]) (by kernel_rfl) rfl
      have h5 : A.eval (.tmp 5) = .slice ao ls.length ac := hg 2 5 (by decide) rfl (by simp [Op.operands, Call.operands]) (by kernel_rfl) rfl
      obtain ⟨hnn, hr0⟩ := g0
      obtain ⟨va, vc, hv⟩ := row_shape hr0
      rw [hv] at hr0
      obtain ⟨k1, k2, cs, k3, k4⟩ := hC
      obtain ⟨v', W', hr, h2, h3'⟩ := append_sessions (L := []) (c := ac) (by simp; omega) (Nat.le_trans (show _ ≤ _ from k4.lt) (Nat.le_refl _)) hr0 (HA.out.on k1)
      rw [List.nil_append] at h2
      obtain ⟨va', vc', rfl⟩ := row_shape h2
      have hk : ∀ q ty cs, BlockIs W q ty cs → ty ≠ 36 → BlockIs W' q ty cs := fun q ty cs hq hne => block_grown hq hr0 h3' hne
      refine does_value (v := .slice va' ls.length vc') (w' := W') (by simp only [execOp, resolve, invoke, builtin, Sem.run_bind, Sem.run_pure, Result.andThen_ok, List.map_toArray, List.map_cons, List.map_nil, hv, h5, hr]) ⟨⟨va', vc', rfl, h2⟩, ⟨k1.grown h3' k1.size (fun j hj => by have := (hr0.lt j hj).1; omega), hk _ _ _ k2 (by decide), cs, k3, hk _ _ _ k4 (by decide)⟩, h3'.size, fun q ty cs hq n3 n7 _ => hk q ty cs hq (n3 rfl)⟩
    · intro A W hC hg hb
      obtain ⟨k1, k2, cs, k3, k4⟩ := hC
      have hbm := below_more (Below.refl W.heap.size W) (.cells #[] 41)
      exact does_value (v := .slice (some ⟨W.heap.size, 0, none⟩) 0 0) (w' := W.alloc (.cells #[] 41)) (by simp [execOp, go_sem]) ⟨⟨by simp [Value.ownBlock], itemR_nil W _ k4.lt⟩, ⟨below_more k1 _, k2.on hbm k2.lt, cs, k3, k4.on hbm k4.lt⟩, hbm.size, fun _ _ _ h _ _ _ => h.on hbm h.lt⟩
    · intro A W hC hg hb
      have h1 : A.eval (.tmp 1) = .pointer (some ⟨w.heap.size, 0, none⟩) := hb 1 (base_of (by kernel_rfl))
      exact does_value (v := .pointer (some ⟨w.heap.size, 1, none⟩)) (w' := W) (by simp only [execOp, h1]; simp [go_sem]) ⟨rfl, hC, Nat.le_refl _, fun _ _ _ h _ _ _ => h⟩
    · intro A W hC hg hb
      have h8 : A.eval (.tmp 8) = .pointer (some ⟨w.heap.size, 1, none⟩) := hg 5 8 (by decide) rfl (by simp [Op.operands]) (by kernel_rfl) rfl
      have hc := hC.2.1.cell (j := 1) rfl
      exact does_value (v := .slice bo li.length bc) (w' := W) (by simp only [execOp, h8]; simp [go_sem, hc]) ⟨rfl, hC, Nat.le_refl _, fun _ _ _ h _ _ _ => h⟩
    · intro A W hC hg hb
      have g4 := hg 4 7 (by decide) rfl (by simp [Op.operands, Call.operands]) (by kernel_rfl) rfl
      have h9 : A.eval (.tmp 9) = .slice bo li.length bc := hg 6 9 (by decide) rfl (by simp [Op.operands, Call.operands]) (by kernel_rfl) rfl
      obtain ⟨hnn, hr0⟩ := g4
      obtain ⟨va, vc, hv⟩ := row_shape hr0
      rw [hv] at hr0
      obtain ⟨k1, k2, cs, k3, k4⟩ := hC
      obtain ⟨v', W', hr, h2, h3'⟩ := append_items (L := []) (c := bc) (by simp; omega) (Nat.le_trans (show _ ≤ _ from k4.lt) (Nat.le_refl _)) hr0 (HI.out.on k1)
      rw [List.nil_append] at h2
      obtain ⟨va', vc', rfl⟩ := row_shape h2
      have hk : ∀ q ty cs, BlockIs W q ty cs → ty ≠ 41 → BlockIs W' q ty cs := fun q ty cs hq hne => block_grown hq hr0 h3' hne
      refine does_value (v := .slice va' li.length vc') (w' := W') (by simp only [execOp, resolve, invoke, builtin, Sem.run_bind, Sem.run_pure, Result.andThen_ok, List.map_toArray, List.map_cons, List.map_nil, hv, h9, hr]) ⟨⟨va', vc', rfl, h2⟩, ⟨k1.grown h3' k1.size (fun j hj => by have := (hr0.lt j hj).1; omega), hk _ _ _ k2 (by decide), cs, k3, hk _ _ _ k4 (by decide)⟩, h3'.size, fun q ty cs hq n3 n7 _ => hk q ty cs hq (n7 rfl)⟩
    · intro A W hC hg hb
      have g3 := hg 3 6 (by decide) rfl (by simp [Op.operands]) (by kernel_rfl) rfl
      have g7 := hg 7 10 (by decide) rfl (by simp [Op.operands]) (by kernel_rfl) rfl
      obtain ⟨va, vc, e3, hs3⟩ := g3
      obtain ⟨vb, vd, e7, hs7⟩ := g7
      simp [go_sem] at e3 e7
      refine does_value (v := .agg #[.slice va ls.length vc, .slice vb li.length vd]) (w' := W) (by simp [execOp, go_sem, e3, e7]) ⟨⟨va, vc, vb, vd, rfl, hs3, hs7⟩, hC, Nat.le_refl _, fun _ _ _ h _ _ _ => h⟩
    · intro A W hC hg hb
      have h2 : A.eval (.tmp 2) = .pointer (some ⟨w.heap.size + 1, 0, none⟩) := hb 2 (base_of (by kernel_rfl))
      have g8 := hg 8 11 (by decide) rfl (by simp [Op.operands]) (by kernel_rfl) rfl
      obtain ⟨va, vc, vb, vd, e8, hs3, hs7⟩ := g8
      obtain ⟨k1, k2, cs, k3, k4⟩ := hC
      match cs, k3 with
      | [a0, a1], _ =>
        have c0 := k4.cell (j := 0) rfl
        have c1 := k4.cell (j := 1) rfl
        have f0 := k4.thaw 0
        have f1 := k4.thaw 1
        have hX3 := (k4.set 0 (.slice va ls.length vc)).set 1 (.slice vb li.length vd)
        have far : ∀ q ty cs, BlockIs W q ty cs → w.heap.size + 1 ≠ q → BlockIs ((W.setCell ⟨w.heap.size + 1, 0, none⟩ (.slice va ls.length vc)).setCell ⟨w.heap.size + 1, 1, none⟩ (.slice vb li.length vd)) q ty cs := fun q ty cs hq hne => (hq.far hne _).far hne _
        have far2 : ∀ q ty cs, BlockIs W q ty cs → ty ≠ 27 → BlockIs ((W.setCell ⟨w.heap.size + 1, 0, none⟩ (.slice va ls.length vc)).setCell ⟨w.heap.size + 1, 1, none⟩ (.slice vb li.length vd)) q ty cs := fun q ty cs hq hne => far q ty cs hq (by intro e; subst e; exact hne (block_one hq k4).1)
        refine does_skip (w' := ((W.setCell ⟨w.heap.size + 1, 0, none⟩ (.slice va ls.length vc)).setCell ⟨w.heap.size + 1, 1, none⟩ (.slice vb li.length vd))) (by simp only [execOp, h2, e8]; simp [go_sem, c0, c1, f0, f1]) ⟨⟨va, vc, vb, vd, hX3, ?_, ?_⟩, ⟨(k1.setCell (by show _ ≤ _ + 1; omega) _).setCell (by show _ ≤ _ + 1; omega) _, far _ _ _ k2 (by omega), _, rfl, hX3⟩, ?_, fun q ty cs hq _ _ hne => far2 q ty cs hq (hne rfl)⟩
        · exact row_ext hs3 (fun g r h => far2 g _ _ h (by decide))
        · exact row_ext hs7 (fun g r h => far2 g _ _ h (by decide))
        · simp [World.size_setCell]
  · intro vs w4 hC hg
    obtain ⟨va, vc, vb, vd, g1, g2, g3⟩ := hg 9 (by decide) (fun k => by simp)
    clear hg
    change Exit.then _ _ _ (laidBy _ vs _ 10 _) w4
    simp only [laidBy, if_true, dstAt, List.getElem?_toArray, List.getElem?_cons_succ, List.getElem?_cons_zero, Option.bind_some]
    simp only [Act.put, List.setIfInBounds_toArray, List.set_cons_succ, List.set_cons_zero]
    have c0 := g1.cell (j := 0) rfl
    have c1 := g1.cell (j := 1) rfl
    have BL := hid hC.1
    have G2 := hid (KRows.down (lo' := w.heap.size) ⟨g2, g3⟩ (by omega))
    clear hC g1 g2 g3
    go_wp2
    refine bodyPost_ret (v := .agg #[.slice va ls.length vc, .slice vb li.length vd]) (by simp [results, Tryz.results36, go_sem, c0, c1]) rfl ⟨va, vc, vb, vd, rfl, G2.out, BL.out⟩
end Go.Proofs.YtohpkegbmhmjeaaGreatDoor
