/-
  The walk of impl.(*wheel).ring: a wheel's ring, in memory of its own.
-/
import Derived.Test.YtbajffpkfjkolaaWheelSet
import Derived.Test.YtbajffpkfjkolaaCopiedRingI
import Derived.Test.YtbajffpkfjkolaaAnyOrder
namespace Go.Proofs.Ytbajffpkfjkolaa
open Go.RowKit

set_option maxRecDepth 1000000 in
set_option maxHeartbeats 4000000 in
theorem wheelRing_any (b : Nat) (l : List SlotD) (h t : Nat) (hsm : ∀ f ∈ l, slotOne f ≤ 1048576) (w : World) (hw : WheelIs w b l h t) :
    Calls Try.prog 23 #[.pointer (some ⟨b, 0, none⟩)] w fun e w' => ∃ g, w.heap.size ≤ g ∧ e = .returned (.agg #[.slice (some ⟨g, 0, none⟩) l.length l.length, .int .i64 h, .int .i64 t]) ∧ BlockIs w' g 42 (slotCells l) ∧ Below w.heap.size w w' := by
  have hbw := hw.1.lt
  obtain ⟨⟨l1, l2⟩, l3, l4⟩ := hw.2
  have CC := hid (fun W ha => copiedRing_any h t (some ⟨b, 0, none⟩) l 8 (by omega) hsm W ha)
  have hx : BlockIs (w.alloc (.cells #[.slice none 0 0, .int .i64 0, .int .i64 0] 26)) w.heap.size 26 [.slice none 0 0, .int .i64 0, .int .i64 0] := heap_alloc_new w _
  have hb0 := below_more (Below.refl w.heap.size w) (.cells #[.slice none 0 0, .int .i64 0, .int .i64 0] 26)
  have hw0 := hw.on hb0
  obtain ⟨WW, hWW⟩ : ∃ WW, w.alloc (.cells #[.slice none 0 0, .int .i64 0, .int .i64 0] 26) = WW := ⟨_, rfl⟩
  rw [hWW] at hx hb0 hw0
  have X0 := hid hx
  have B0 := hid hb0
  have W0 := hid hw0
  have hl8 : (l.length : Int) ≤ 8 := by omega
  clear hx hb0 hw0 hw hsm
  go_enter Try.func23, Try.ntmps23
  go_wp2
  refine wp_region_each (N := 21) (by kernel_rfl) (by kernel_rfl) rfl (by kernel_rfl) (fun W => Below w.heap.size w W ∧ WheelIs W b l h t ∧ ∃ cs, cs.length = 3 ∧ BlockIs W w.heap.size 26 cs) (fun j v _ W => match j with | 0 => v = .pointer (some ⟨b, 0, none⟩) | 1 => v = .pointer (some ⟨b, 0, none⟩) | 2 => v = .pointer (some ⟨b, 0, none⟩) | 3 => v = .pointer (some ⟨b, 0, none⟩) | 4 => v = .pointer (some ⟨b, 0, none⟩) | 5 => v = .pointer (some ⟨b, 16, none⟩) | 6 => v = .int .i64 l.length | 7 => v = .slice (some ⟨b, 0, none⟩) l.length 8 | 8 => v = .pointer (some ⟨b, 0, none⟩) | 9 => v = .pointer (some ⟨b, 0, none⟩) | 10 => v = .pointer (some ⟨b, 17, none⟩) | 11 => v = .int .i64 h | 12 => v = .pointer (some ⟨b, 0, none⟩) | 13 => v = .pointer (some ⟨b, 0, none⟩) | 14 => v = .pointer (some ⟨b, 18, none⟩) | 15 => v = .int .i64 t | 16 => v = .agg #[.slice (some ⟨b, 0, none⟩) l.length 8, .int .i64 h, .int .i64 t] | 17 => ∃ g, v = .agg #[.slice (some ⟨g, 0, none⟩) l.length l.length, .int .i64 h, .int .i64 t] ∧ w.heap.size < g ∧ BlockIs W g 42 (slotCells l) | 18 => ∃ g, BlockIs W w.heap.size 26 [.slice (some ⟨g, 0, none⟩) l.length l.length, .int .i64 h, .int .i64 t] ∧ w.heap.size < g ∧ BlockIs W g 42 (slotCells l) | _ => True) (fun i => i) (fun j i => decide ((j, i) ∈ ([(17, 18)] : List (Nat × Nat)))) (fun i x y => i ≠ 18 → Below x.heap.size x y) (fun _ => 0) (by kernel_rfl) (fun _ _ => rfl) ?_ ⟨below_drewN B0.out 1, W0.out.on (below_drewN (Below.refl _ _) 1), _, rfl, X0.out.on (below_drewN (Below.refl _ _) 1) X0.out.lt⟩ ?_ ?_
  · intro i j v u x y hij hdd hwt hxy hg
    match j, hg with
    | 0, hg => exact hg
    | 1, hg => exact hg
    | 2, hg => exact hg
    | 3, hg => exact hg
    | 4, hg => exact hg
    | 5, hg => exact hg
    | 6, hg => exact hg
    | 7, hg => exact hg
    | 8, hg => exact hg
    | 9, hg => exact hg
    | 10, hg => exact hg
    | 11, hg => exact hg
    | 12, hg => exact hg
    | 13, hg => exact hg
    | 14, hg => exact hg
    | 15, hg => exact hg
    | 16, hg => exact hg
    | 17, hg =>
      obtain ⟨g, e1, e2, e3⟩ := hg
      by_cases h18 : i = 18
      · subst h18
        exact absurd rfl (fun _ : (18:Nat) = 18 => by simp at hdd)
      · have hb := hxy h18
        exact ⟨g, e1, e2, e3.on hb e3.lt⟩
    | 18, hg =>
      obtain ⟨g, e1, e2, e3⟩ := hg
      have hb := hxy hij
      exact ⟨g, e1.on hb e1.lt, e2, e3.on hb e3.lt⟩
    | n + 19, _ => exact trivial
  · refine ⟨?_, ?_, ?_, ?_, ?_, ?_, ?_, ?_, ?_, ?_, ?_, ?_, ?_, ?_, ?_, ?_, ?_, ?_, ?_, trivial⟩
    · intro A W hC hg hb
      have h0 : A.eval (.tmp 0) = .pointer (some ⟨b, 0, none⟩) := hb 0 (base_of (by kernel_rfl))
      exact does_value (v := .pointer (some ⟨b, 0, none⟩)) (w' := W) (by simp only [execOp, h0]; simp [go_sem]) ⟨rfl, hC, fun _ => Below.refl _ _⟩
    · intro A W hC hg hb
      have h3 : A.eval (.tmp 3) = .pointer (some ⟨b, 0, none⟩) := hg 0 3 (by decide) rfl (by simp [Op.operands]) (by kernel_rfl) rfl
      exact does_value (v := .pointer (some ⟨b, 0, none⟩)) (w' := W) (by simp only [execOp, h3]; simp [go_sem]) ⟨rfl, hC, fun _ => Below.refl _ _⟩
    · intro A W hC hg hb
      have h4 : A.eval (.tmp 4) = .pointer (some ⟨b, 0, none⟩) := hg 1 4 (by decide) rfl (by simp [Op.operands]) (by kernel_rfl) rfl
      exact does_value (v := .pointer (some ⟨b, 0, none⟩)) (w' := W) (by simp only [execOp, h4]; simp [go_sem]) ⟨rfl, hC, fun _ => Below.refl _ _⟩
    · intro A W hC hg hb
      have h0 : A.eval (.tmp 0) = .pointer (some ⟨b, 0, none⟩) := hb 0 (base_of (by kernel_rfl))
      exact does_value (v := .pointer (some ⟨b, 0, none⟩)) (w' := W) (by simp only [execOp, h0]; simp [go_sem]) ⟨rfl, hC, fun _ => Below.refl _ _⟩
    · intro A W hC hg hb
      have h6 : A.eval (.tmp 6) = .pointer (some ⟨b, 0, none⟩) := hg 3 6 (by decide) rfl (by simp [Op.operands]) (by kernel_rfl) rfl
      exact does_value (v := .pointer (some ⟨b, 0, none⟩)) (w' := W) (by simp only [execOp, h6]; simp [go_sem]) ⟨rfl, hC, fun _ => Below.refl _ _⟩
    · intro A W hC hg hb
      have h7 : A.eval (.tmp 7) = .pointer (some ⟨b, 0, none⟩) := hg 4 7 (by decide) rfl (by simp [Op.operands]) (by kernel_rfl) rfl
      exact does_value (v := .pointer (some ⟨b, 16, none⟩)) (w' := W) (by simp only [execOp, h7]; simp [go_sem]) ⟨rfl, hC, fun _ => Below.refl _ _⟩
    · intro A W hC hg hb
      have h8 : A.eval (.tmp 8) = .pointer (some ⟨b, 16, none⟩) := hg 5 8 (by decide) rfl (by simp [Op.operands]) (by kernel_rfl) rfl
      have hc := hC.2.1.count
      exact does_value (v := .int .i64 l.length) (w' := W) (by simp only [execOp, h8]; simp [go_sem, hc]) ⟨rfl, hC, fun _ => Below.refl _ _⟩
    · intro A W hC hg hb
      have h5 : A.eval (.tmp 5) = .pointer (some ⟨b, 0, none⟩) := hg 2 5 (by decide) rfl (by simp [Op.operands]) (by kernel_rfl) rfl
      have h9 : A.eval (.tmp 9) = .int .i64 l.length := hg 6 9 (by decide) rfl (by simp [Op.operands]) (by kernel_rfl) rfl
      simp [go_sem] at h5 h9
      exact does_value (v := .slice (some ⟨b, 0, none⟩) l.length 8) (w' := W) (by simp [execOp, go_sem, h5, h9, slice_wheel W b l.length l2]) ⟨rfl, hC, fun _ => Below.refl _ _⟩
    · intro A W hC hg hb
      have h0 : A.eval (.tmp 0) = .pointer (some ⟨b, 0, none⟩) := hb 0 (base_of (by kernel_rfl))
      exact does_value (v := .pointer (some ⟨b, 0, none⟩)) (w' := W) (by simp only [execOp, h0]; simp [go_sem]) ⟨rfl, hC, fun _ => Below.refl _ _⟩
    · intro A W hC hg hb
      have h11 : A.eval (.tmp 11) = .pointer (some ⟨b, 0, none⟩) := hg 8 11 (by decide) rfl (by simp [Op.operands]) (by kernel_rfl) rfl
      exact does_value (v := .pointer (some ⟨b, 0, none⟩)) (w' := W) (by simp only [execOp, h11]; simp [go_sem]) ⟨rfl, hC, fun _ => Below.refl _ _⟩
    · intro A W hC hg hb
      have h12 : A.eval (.tmp 12) = .pointer (some ⟨b, 0, none⟩) := hg 9 12 (by decide) rfl (by simp [Op.operands]) (by kernel_rfl) rfl
      exact does_value (v := .pointer (some ⟨b, 17, none⟩)) (w' := W) (by simp only [execOp, h12]; simp [go_sem]) ⟨rfl, hC, fun _ => Below.refl _ _⟩
    · intro A W hC hg hb
      have h13 : A.eval (.tmp 13) = .pointer (some ⟨b, 17, none⟩) := hg 10 13 (by decide) rfl (by simp [Op.operands]) (by kernel_rfl) rfl
      have hc := hC.2.1.head
      exact does_value (v := .int .i64 h) (w' := W) (by simp only [execOp, h13]; simp [go_sem, hc]) ⟨rfl, hC, fun _ => Below.refl _ _⟩
    · intro A W hC hg hb
      have h0 : A.eval (.tmp 0) = .pointer (some ⟨b, 0, none⟩) := hb 0 (base_of (by kernel_rfl))
      exact does_value (v := .pointer (some ⟨b, 0, none⟩)) (w' := W) (by simp only [execOp, h0]; simp [go_sem]) ⟨rfl, hC, fun _ => Below.refl _ _⟩
    · intro A W hC hg hb
      have h15 : A.eval (.tmp 15) = .pointer (some ⟨b, 0, none⟩) := hg 12 15 (by decide) rfl (by simp [Op.operands]) (by kernel_rfl) rfl
      exact does_value (v := .pointer (some ⟨b, 0, none⟩)) (w' := W) (by simp only [execOp, h15]; simp [go_sem]) ⟨rfl, hC, fun _ => Below.refl _ _⟩
    · intro A W hC hg hb
      have h16 : A.eval (.tmp 16) = .pointer (some ⟨b, 0, none⟩) := hg 13 16 (by decide) rfl (by simp [Op.operands]) (by kernel_rfl) rfl
      exact does_value (v := .pointer (some ⟨b, 18, none⟩)) (w' := W) (by simp only [execOp, h16]; simp [go_sem]) ⟨rfl, hC, fun _ => Below.refl _ _⟩
    · intro A W hC hg hb
      have h17 : A.eval (.tmp 17) = .pointer (some ⟨b, 18, none⟩) := hg 14 17 (by decide) rfl (by simp [Op.operands]) (by kernel_rfl) rfl
      have hc := hC.2.1.tail
      exact does_value (v := .int .i64 t) (w' := W) (by simp only [execOp, h17]; simp [go_sem, hc]) ⟨rfl, hC, fun _ => Below.refl _ _⟩
    · intro A W hC hg hb
      have h10 : A.eval (.tmp 10) = .slice (some ⟨b, 0, none⟩) l.length 8 := hg 7 10 (by decide) rfl (by simp [Op.operands]) (by kernel_rfl) rfl
      have h14 : A.eval (.tmp 14) = .int .i64 h := hg 11 14 (by decide) rfl (by simp [Op.operands]) (by kernel_rfl) rfl
      have h18 : A.eval (.tmp 18) = .int .i64 t := hg 15 18 (by decide) rfl (by simp [Op.operands]) (by kernel_rfl) rfl
      simp [go_sem] at h10 h14 h18
      exact does_value (v := .agg #[.slice (some ⟨b, 0, none⟩) l.length 8, .int .i64 h, .int .i64 t]) (w' := W) (by simp [execOp, go_sem, h10, h14, h18]) ⟨rfl, hC, fun _ => Below.refl _ _⟩
    · intro A W hC hg hb
      have h19 : A.eval (.tmp 19) = .agg #[.slice (some ⟨b, 0, none⟩) l.length 8, .int .i64 h, .int .i64 t] := hg 16 19 (by decide) rfl (by simp [Op.operands, Call.operands]) (by kernel_rfl) rfl
      simp [go_sem] at h19
      refine does_enter (f := 22) (args := #[.agg #[.slice (some ⟨b, 0, none⟩) l.length 8, .int .i64 h, .int .i64 t]]) (w' := W) (by simp [go_sem, h19]) ?_
      refine (CC.out W hC.2.1.slots).mono ?_
      rintro e W' ⟨g, hg0, rfl, hbl, hb'⟩
      obtain ⟨k1, k2, cs, k3, k4⟩ := hC
      exact ⟨_, rfl, ⟨g, rfl, Nat.lt_of_lt_of_le k4.lt hg0, hbl⟩, ⟨below_via k1 hb', k2.on hb', cs, k3, k4.on hb' k4.lt⟩, fun _ => hb'⟩
    · intro A W hC hg hb
      have h2 : A.eval (.tmp 2) = .pointer (some ⟨w.heap.size, 0, none⟩) := hb 2 (base_of (by kernel_rfl))
      have g17 := hg 17 20 (by decide) rfl (by simp [Op.operands]) (by kernel_rfl) rfl
      obtain ⟨k1, k2, cs, k3, k4⟩ := hC
      obtain ⟨g, h20, hlo, hbl⟩ := g17
      match cs, k3 with
      | [a0, a1, a2], _ =>
        have c0 := k4.cell (j := 0) rfl
        have c1 := k4.cell (j := 1) rfl
        have c2 := k4.cell (j := 2) rfl
        have f0 := k4.thaw 0
        have f1 := k4.thaw 1
        have f2 := k4.thaw 2
        have hX3 := ((k4.set 0 (.slice (some ⟨g, 0, none⟩) l.length l.length)).set 1 (.int .i64 h)).set 2 (.int .i64 t)
        have hbl3 := ((hbl.far (show w.heap.size ≠ g by omega) (j := 0) (.slice (some ⟨g, 0, none⟩) l.length l.length)).far (show w.heap.size ≠ g by omega) (j := 1) (.int .i64 h)).far (show w.heap.size ≠ g by omega) (j := 2) (.int .i64 t)
        have hne : w.heap.size ≠ b := fun e => (Nat.lt_irrefl b) (e ▸ hbw)
        have hw3 : WheelIs (((W.setCell ⟨w.heap.size, 0, none⟩ (.slice (some ⟨g, 0, none⟩) l.length l.length)).setCell ⟨w.heap.size, 1, none⟩ (.int .i64 h)).setCell ⟨w.heap.size, 2, none⟩ (.int .i64 t)) b l h t := ⟨((k2.1.far hne _).far hne _).far hne _, k2.2⟩
        refine does_skip (w' := ((W.setCell ⟨w.heap.size, 0, none⟩ (.slice (some ⟨g, 0, none⟩) l.length l.length)).setCell ⟨w.heap.size, 1, none⟩ (.int .i64 h)).setCell ⟨w.heap.size, 2, none⟩ (.int .i64 t)) (by simp only [execOp, h2, h20]; simp [go_sem, c0, c1, c2, f0, f1, f2]) ⟨⟨g, hX3, hlo, hbl3⟩, ⟨((k1.setCell (Nat.le_refl _) _).setCell (Nat.le_refl _) _).setCell (Nat.le_refl _) _, hw3, _, rfl, hX3⟩, fun h => absurd rfl h⟩
  · intro vs w4 hC hg
    obtain ⟨g, g1, g2, g3⟩ := hg 18 (by decide) (fun k => by simp)
    clear hg
    change Exit.then _ _ _ (laidBy _ vs _ 19 _) w4
    simp only [laidBy, if_true, dstAt, List.getElem?_toArray, List.getElem?_cons_succ, List.getElem?_cons_zero, Option.bind_some]
    simp only [Act.put, List.setIfInBounds_toArray, List.set_cons_succ, List.set_cons_zero]
    have c0 := g1.cell (j := 0) rfl
    have c1 := g1.cell (j := 1) rfl
    have c2 := g1.cell (j := 2) rfl
    have BL := hid hC.1
    have G3 := hid g3
    have G2 := hid g2
    clear hC g1 g2 g3
    go_wp2
    refine bodyPost_ret (v := .agg #[.slice (some ⟨g, 0, none⟩) l.length l.length, .int .i64 h, .int .i64 t]) (by simp [results, Try.results23, go_sem, c0, c1, c2]) rfl ⟨g, Nat.le_of_lt G2.out, rfl, G3.out, BL.out⟩
end Go.Proofs.Ytbajffpkfjkolaa
