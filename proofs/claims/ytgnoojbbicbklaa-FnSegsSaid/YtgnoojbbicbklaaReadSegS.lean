/-
  The walk of spec.ReadSeg: what it answers.
-/
import Derived.Test.YtgnoojbbicbklaaSegOkS
import Derived.Test.YtgnoojbbicbklaaPlainCrc
import Derived.Test.YtgnoojbbicbklaaAnyOrder
import Derived.Test.YtgnoojbbicbklaaOwnAt
namespace Go.Proofs.Ytgnoojbbicbklaa
open Go.RowKit

set_option maxRecDepth 1000000 in
set_option maxHeartbeats 4000000 in
theorem specReadSeg_any (s : ByteArray) (hs : s.size ≤ 1048576) (w : World) :
    Calls Try.prog 19 #[.string s] w fun e w' => ((SegIn s ∧ e = .returned (.tuple #[.agg #[.int .i64 (segOf s).num, .int .i64 (segOf s).ack, .int .i64 (segOf s).flags, .string (segOf s).body], .bool true])) ∨ (¬ SegIn s ∧ e = .returned (.tuple #[.agg #[.int .i64 0, .int .i64 0, .int .i64 0, .string ⟨#[]⟩], .bool false]))) ∧ Below w.heap.size w w' := by
  have hx : BlockIs (w.alloc (.cells #[.int .i64 0, .int .i64 0, .int .i64 0, .string ⟨#[]⟩] 30)) w.heap.size 30 [.int .i64 0, .int .i64 0, .int .i64 0, .string ⟨#[]⟩] := heap_alloc_new w _
  have B0 := hid (below_more (Below.refl w.heap.size w) (.cells #[.int .i64 0, .int .i64 0, .int .i64 0, .string ⟨#[]⟩] 30))
  obtain ⟨W0, hW0⟩ : ∃ W, w.alloc (.cells #[.int .i64 0, .int .i64 0, .int .i64 0, .string ⟨#[]⟩] 30) = W := ⟨_, rfl⟩
  rw [hW0] at hx B0
  have X0 := hid hx
  have p0 := hx.cell (j := 0) rfl
  have p1 := hx.cell (j := 1) rfl
  have p2 := hx.cell (j := 2) rfl
  have p3 := hx.cell (j := 3) rfl
  have pf0 := hx.thaw 0
  have pf1 := hx.thaw 1
  have pf2 := hx.thaw 2
  have pf3 := hx.thaw 3
  have BLN := hid (((((B0.out).setCell (p := ⟨w.heap.size, 0, none⟩) (Nat.le_refl _) (.int .i64 0)).setCell (p := ⟨w.heap.size, 1, none⟩) (Nat.le_refl _) (.int .i64 0)).setCell (p := ⟨w.heap.size, 2, none⟩) (Nat.le_refl _) (.int .i64 0)).setCell (p := ⟨w.heap.size, 3, none⟩) (Nat.le_refl _) (.string ⟨#[]⟩))
  clear hx
  go_enter Try.func19, Try.ntmps19
  by_cases h9 : (s.size : Int) < 5
  · have HN : Hid (¬ SegIn s) := fun h => by have := h.1; omega
    go_wp2
    refine bodyPost_ret (v := .tuple #[.agg #[.int .i64 0, .int .i64 0, .int .i64 0, .string ⟨#[]⟩], .bool false]) (by simp [results, Try.results19, go_sem, p0, p1, p2, p3]) rfl ?_
    exact ⟨Or.inr ⟨HN.out, rfl⟩, BLN.out⟩
  have i0 : 0 < s.size := by omega
  have i1 : (1 : Int) < (s.size : Int) := by omega
  have i2 : (2 : Int) < (s.size : Int) := by omega
  have i3 : (3 : Int) < (s.size : Int) := by omega
  have i4 : (4 : Int) < (s.size : Int) := by omega
  have hb0 : ((s[0]'(by omega)).toNat : Int) ≤ 255 := by have := (s[0]'(by omega)).toNat_lt; omega
  have hb1 : ((s[1]'(by omega)).toNat : Int) ≤ 255 := by have := (s[1]'(by omega)).toNat_lt; omega
  have hb2 : ((s[2]'(by omega)).toNat : Int) ≤ 255 := by have := (s[2]'(by omega)).toNat_lt; omega
  have hb3 : ((s[3]'(by omega)).toNat : Int) ≤ 255 := by have := (s[3]'(by omega)).toNat_lt; omega
  have hb4 : ((s[4]'(by omega)).toNat : Int) ≤ 255 := by have := (s[4]'(by omega)).toNat_lt; omega
  have q5 := slice_from (P := Try.prog) Try.underlying9 s 5 5 rfl (by omega)
  have HDs := hid (show (s.extract 5 s.size).size ≤ 1048576 by rw [ByteArray.size_extract]; omega)
  have HO := hid (segOf_at (U := s) (by omega))
  obtain ⟨D, hD⟩ : ∃ D, s.extract 5 s.size = D := ⟨_, rfl⟩
  rw [hD] at q5 HDs HO
  obtain ⟨x0, hx0⟩ : ∃ x, ((s[0]'(by omega)).toNat : Int) = x := ⟨_, rfl⟩
  have l0 : 0 ≤ x0 := by omega
  rw [hx0] at HO hb0
  have hw0 : IntKind.i64.wrap x0 = x0 := by rw [IntKind.wrap_i64]; omega
  obtain ⟨x1, hx1⟩ : ∃ x, ((s[1]'(by omega)).toNat : Int) = x := ⟨_, rfl⟩
  have l1 : 0 ≤ x1 := by omega
  rw [hx1] at HO hb1
  have hw1 : IntKind.i64.wrap x1 = x1 := by rw [IntKind.wrap_i64]; omega
  obtain ⟨x2, hx2⟩ : ∃ x, ((s[2]'(by omega)).toNat : Int) = x := ⟨_, rfl⟩
  have l2 : 0 ≤ x2 := by omega
  rw [hx2] at HO hb2
  have hw2 : IntKind.i64.wrap x2 = x2 := by rw [IntKind.wrap_i64]; omega
  obtain ⟨x3, hx3⟩ : ∃ x, ((s[3]'(by omega)).toNat : Int) = x := ⟨_, rfl⟩
  have l3 : 0 ≤ x3 := by omega
  rw [hx3] at HO hb3
  have hw3 : IntKind.i64.wrap x3 = x3 := by rw [IntKind.wrap_i64]; omega
  obtain ⟨x4, hx4⟩ : ∃ x, ((s[4]'(by omega)).toNat : Int) = x := ⟨_, rfl⟩
  have l4 : 0 ≤ x4 := by omega
  rw [hx4] at HO hb4
  have hw4 : IntKind.i64.wrap x4 = x4 := by rw [IntKind.wrap_i64]; omega
  have hm0 : IntKind.i64.wrap ((256 : Int) * x0) = (256 : Int) * x0 := by rw [IntKind.wrap_i64]; omega
  obtain ⟨N0, hn0⟩ : ∃ x, (256 : Int) * x0 + x1 = x := ⟨_, rfl⟩
  have ln0 : 0 ≤ N0 ∧ N0 ≤ 65535 := by omega
  have hnw0 : IntKind.i64.wrap N0 = N0 := by rw [IntKind.wrap_i64]; omega
  rw [hn0] at HO
  have hm2 : IntKind.i64.wrap ((256 : Int) * x2) = (256 : Int) * x2 := by rw [IntKind.wrap_i64]; omega
  obtain ⟨N1, hn1⟩ : ∃ x, (256 : Int) * x2 + x3 = x := ⟨_, rfl⟩
  have ln1 : 0 ≤ N1 ∧ N1 ≤ 65535 := by omega
  have hnw1 : IntKind.i64.wrap N1 = N1 := by rw [IntKind.wrap_i64]; omega
  rw [hn1] at HO
  clear hD
  go_wp2
  refine wp_region_each (N := 36) (by kernel_rfl) (by kernel_rfl) rfl (by kernel_rfl) (fun W => Below W0.heap.size W0 W) (fun j v u W => match j with | 0 => v = .string s | 1 => v = .int .u8 x0 | 2 => v = .int .i64 x0 | 3 => v = .int .i64 ((256 : Int) * x0) | 4 => v = .string s | 5 => v = .int .u8 x1 | 6 => v = .int .i64 x1 | 7 => v = .int .i64 N0 | 8 => v = .string s | 9 => v = .int .u8 x2 | 10 => v = .int .i64 x2 | 11 => v = .int .i64 ((256 : Int) * x2) | 12 => v = .string s | 13 => v = .int .u8 x3 | 14 => v = .int .i64 x3 | 15 => v = .int .i64 N1 | 16 => v = .string s | 17 => v = .int .u8 x4 | 18 => v = .int .i64 x4 | 19 => v = .string s | 20 => v = .string D | 21 => v = .agg #[.int .i64 N0, .int .i64 N1, .int .i64 x4, .string D] | 22 => ∃ X, v = .pointer (some ⟨X, 0, none⟩) ∧ W0.heap.size ≤ X ∧ BlockIs W X 30 [.int .i64 0, .int .i64 0, .int .i64 0, .string ⟨#[]⟩] | 23 => ∃ X, u = .pointer (some ⟨X, 0, none⟩) ∧ W0.heap.size ≤ X ∧ BlockIs W X 30 [.int .i64 N0, .int .i64 N1, .int .i64 x4, .string D] | _ => True) (fun i => if i = 23 then 22 else i) (fun j i => decide ((j, i) ∈ ([(22, 23)] : List (Nat × Nat)))) (fun i x y => x.heap.size ≤ y.heap.size ∧ ∀ g ty cs, BlockIs x g ty cs → (i = 23 → ty ≠ 30) → BlockIs y g ty cs) (fun i => if i = 23 then 4 else 0) (by kernel_rfl) (fun i hi => by have : 24 ≤ i := hi; simp; omega) ?_ (below_drewN (Below.refl _ _) 1) ?_ ?_
  · intro i j v u x y hij hdd hwt hxy hg
    match j, hg with
    | 0, hg => exact hg
    | 1, hg => exact hg
    | 2, hg => exact hg
    | 3, hg => exact hg
    | 4, hg => exact hg
    | 5, hg => exact hg
    | 6, hg => exact hg
    | 7, hg => exact hg
    | 8, hg => exact hg
    | 9, hg => exact hg
    | 10, hg => exact hg
    | 11, hg => exact hg
    | 12, hg => exact hg
    | 13, hg => exact hg
    | 14, hg => exact hg
    | 15, hg => exact hg
    | 16, hg => exact hg
    | 17, hg => exact hg
    | 18, hg => exact hg
    | 19, hg => exact hg
    | 20, hg => exact hg
    | 21, hg => exact hg
    | 22, hg =>
      obtain ⟨X, e1, e2, e3⟩ := hg
      simp at hdd
      exact ⟨X, e1, e2, hxy.2 _ _ _ e3 (fun e => absurd e hdd)⟩
    | 23, hg =>
      obtain ⟨X, e1, e2, e3⟩ := hg
      exact ⟨X, e1, e2, hxy.2 _ _ _ e3 (fun e => absurd e hij)⟩
    | n + 24, _ => exact trivial
  · refine ⟨?_, ?_, ?_, ?_, ?_, ?_, ?_, ?_, ?_, ?_, ?_, ?_, ?_, ?_, ?_, ?_, ?_, ?_, ?_, ?_, ?_, ?_, ?_, ?_, trivial⟩
    · intro A W hC hg hb
      have h0 : A.eval (.tmp 0) = .string s := hb 0 (base_of (by kernel_rfl))
      exact does_value (v := .string s) (w' := W) (by simp only [execOp, h0]; simp [go_sem]) ⟨rfl, hC, Nat.le_refl _, fun _ _ _ h _ => h⟩
    · intro A W hC hg hb
      have h9 : A.eval (.tmp 9) = .string s := hg 0 9 (by decide) rfl (by simp [Op.operands]) (by kernel_rfl) rfl
      exact does_value (v := .int .u8 x0) (w' := W) (by simp only [execOp, h9]; simp [go_sem, i0, hx0]) ⟨rfl, hC, Nat.le_refl _, fun _ _ _ h _ => h⟩
    · intro A W hC hg hb
      have h10 : A.eval (.tmp 10) = .int .u8 x0 := hg 1 10 (by decide) rfl (by simp [Op.operands]) (by kernel_rfl) rfl
      exact does_value (v := .int .i64 x0) (w' := W) (by simp only [execOp, h10]; simp [go_sem, hw0]) ⟨rfl, hC, Nat.le_refl _, fun _ _ _ h _ => h⟩
    · intro A W hC hg hb
      have h11 : A.eval (.tmp 11) = .int .i64 x0 := hg 2 11 (by decide) rfl (by simp [Op.operands]) (by kernel_rfl) rfl
      exact does_value (v := .int .i64 ((256 : Int) * x0)) (w' := W) (by simp only [execOp, h11]; simp [go_sem, hm0]) ⟨rfl, hC, Nat.le_refl _, fun _ _ _ h _ => h⟩
    · intro A W hC hg hb
      have h0 : A.eval (.tmp 0) = .string s := hb 0 (base_of (by kernel_rfl))
      exact does_value (v := .string s) (w' := W) (by simp only [execOp, h0]; simp [go_sem]) ⟨rfl, hC, Nat.le_refl _, fun _ _ _ h _ => h⟩
    · intro A W hC hg hb
      have h13 : A.eval (.tmp 13) = .string s := hg 4 13 (by decide) rfl (by simp [Op.operands]) (by kernel_rfl) rfl
      exact does_value (v := .int .u8 x1) (w' := W) (by simp only [execOp, h13]; simp [go_sem, i1, hx1]) ⟨rfl, hC, Nat.le_refl _, fun _ _ _ h _ => h⟩
    · intro A W hC hg hb
      have h14 : A.eval (.tmp 14) = .int .u8 x1 := hg 5 14 (by decide) rfl (by simp [Op.operands]) (by kernel_rfl) rfl
      exact does_value (v := .int .i64 x1) (w' := W) (by simp only [execOp, h14]; simp [go_sem, hw1]) ⟨rfl, hC, Nat.le_refl _, fun _ _ _ h _ => h⟩
    · intro A W hC hg hb
      have h12 : A.eval (.tmp 12) = .int .i64 ((256 : Int) * x0) := hg 3 12 (by decide) rfl (by simp [Op.operands]) (by kernel_rfl) rfl
      have h15 : A.eval (.tmp 15) = .int .i64 x1 := hg 6 15 (by decide) rfl (by simp [Op.operands]) (by kernel_rfl) rfl
      exact does_value (v := .int .i64 N0) (w' := W) (by simp only [execOp, h12, h15]; simp [go_sem, hn0, hnw0]) ⟨rfl, hC, Nat.le_refl _, fun _ _ _ h _ => h⟩
    · intro A W hC hg hb
      have h0 : A.eval (.tmp 0) = .string s := hb 0 (base_of (by kernel_rfl))
      exact does_value (v := .string s) (w' := W) (by simp only [execOp, h0]; simp [go_sem]) ⟨rfl, hC, Nat.le_refl _, fun _ _ _ h _ => h⟩
    · intro A W hC hg hb
      have h17 : A.eval (.tmp 17) = .string s := hg 8 17 (by decide) rfl (by simp [Op.operands]) (by kernel_rfl) rfl
      exact does_value (v := .int .u8 x2) (w' := W) (by simp only [execOp, h17]; simp [go_sem, i2, hx2]) ⟨rfl, hC, Nat.le_refl _, fun _ _ _ h _ => h⟩
    · intro A W hC hg hb
      have h18 : A.eval (.tmp 18) = .int .u8 x2 := hg 9 18 (by decide) rfl (by simp [Op.operands]) (by kernel_rfl) rfl
      exact does_value (v := .int .i64 x2) (w' := W) (by simp only [execOp, h18]; simp [go_sem, hw2]) ⟨rfl, hC, Nat.le_refl _, fun _ _ _ h _ => h⟩
    · intro A W hC hg hb
      have h19 : A.eval (.tmp 19) = .int .i64 x2 := hg 10 19 (by decide) rfl (by simp [Op.operands]) (by kernel_rfl) rfl
      exact does_value (v := .int .i64 ((256 : Int) * x2)) (w' := W) (by simp only [execOp, h19]; simp [go_sem, hm2]) ⟨rfl, hC, Nat.le_refl _, fun _ _ _ h _ => h⟩
    · intro A W hC hg hb
      have h0 : A.eval (.tmp 0) = .string s := hb 0 (base_of (by kernel_rfl))
      exact does_value (v := .string s) (w' := W) (by simp only [execOp, h0]; simp [go_sem]) ⟨rfl, hC, Nat.le_refl _, fun _ _ _ h _ => h⟩
    · intro A W hC hg hb
      have h21 : A.eval (.tmp 21) = .string s := hg 12 21 (by decide) rfl (by simp [Op.operands]) (by kernel_rfl) rfl
      exact does_value (v := .int .u8 x3) (w' := W) (by simp only [execOp, h21]; simp [go_sem, i3, hx3]) ⟨rfl, hC, Nat.le_refl _, fun _ _ _ h _ => h⟩
    · intro A W hC hg hb
      have h22 : A.eval (.tmp 22) = .int .u8 x3 := hg 13 22 (by decide) rfl (by simp [Op.operands]) (by kernel_rfl) rfl
      exact does_value (v := .int .i64 x3) (w' := W) (by simp only [execOp, h22]; simp [go_sem, hw3]) ⟨rfl, hC, Nat.le_refl _, fun _ _ _ h _ => h⟩
    · intro A W hC hg hb
      have h20 : A.eval (.tmp 20) = .int .i64 ((256 : Int) * x2) := hg 11 20 (by decide) rfl (by simp [Op.operands]) (by kernel_rfl) rfl
      have h23 : A.eval (.tmp 23) = .int .i64 x3 := hg 14 23 (by decide) rfl (by simp [Op.operands]) (by kernel_rfl) rfl
      exact does_value (v := .int .i64 N1) (w' := W) (by simp only [execOp, h20, h23]; simp [go_sem, hn1, hnw1]) ⟨rfl, hC, Nat.le_refl _, fun _ _ _ h _ => h⟩
    · intro A W hC hg hb
      have h0 : A.eval (.tmp 0) = .string s := hb 0 (base_of (by kernel_rfl))
      exact does_value (v := .string s) (w' := W) (by simp only [execOp, h0]; simp [go_sem]) ⟨rfl, hC, Nat.le_refl _, fun _ _ _ h _ => h⟩
    · intro A W hC hg hb
      have h25 : A.eval (.tmp 25) = .string s := hg 16 25 (by decide) rfl (by simp [Op.operands]) (by kernel_rfl) rfl
      exact does_value (v := .int .u8 x4) (w' := W) (by simp only [execOp, h25]; simp [go_sem, i4, hx4]) ⟨rfl, hC, Nat.le_refl _, fun _ _ _ h _ => h⟩
    · intro A W hC hg hb
      have h26 : A.eval (.tmp 26) = .int .u8 x4 := hg 17 26 (by decide) rfl (by simp [Op.operands]) (by kernel_rfl) rfl
      exact does_value (v := .int .i64 x4) (w' := W) (by simp only [execOp, h26]; simp [go_sem, hw4]) ⟨rfl, hC, Nat.le_refl _, fun _ _ _ h _ => h⟩
    · intro A W hC hg hb
      have h0 : A.eval (.tmp 0) = .string s := hb 0 (base_of (by kernel_rfl))
      exact does_value (v := .string s) (w' := W) (by simp only [execOp, h0]; simp [go_sem]) ⟨rfl, hC, Nat.le_refl _, fun _ _ _ h _ => h⟩
    · intro A W hC hg hb
      have h28 : A.eval (.tmp 28) = .string s := hg 19 28 (by decide) rfl (by simp [Op.operands]) (by kernel_rfl) rfl
      exact does_value (v := .string D) (w' := W) (by simp only [execOp, h28]; simp [go_sem, q5]) ⟨rfl, hC, Nat.le_refl _, fun _ _ _ h _ => h⟩
    · intro A W hC hg hb
      have h16 : A.eval (.tmp 16) = .int .i64 N0 := hg 7 16 (by decide) rfl (by simp [Op.operands]) (by kernel_rfl) rfl
      have h24 : A.eval (.tmp 24) = .int .i64 N1 := hg 15 24 (by decide) rfl (by simp [Op.operands]) (by kernel_rfl) rfl
      have h27 : A.eval (.tmp 27) = .int .i64 x4 := hg 18 27 (by decide) rfl (by simp [Op.operands]) (by kernel_rfl) rfl
      have h29 : A.eval (.tmp 29) = .string D := hg 20 29 (by decide) rfl (by simp [Op.operands]) (by kernel_rfl) rfl
      simp [go_sem] at h16 h24 h27 h29
      exact does_value (v := .agg #[.int .i64 N0, .int .i64 N1, .int .i64 x4, .string D]) (w' := W) (by simp [execOp, go_sem, h16, h24, h27, h29]) ⟨rfl, hC, Nat.le_refl _, fun _ _ _ h _ => h⟩
    · intro A W hC hg hb
      have hbm := below_more (Below.refl W.heap.size W) (.cells #[.int .i64 0, .int .i64 0, .int .i64 0, .string ⟨#[]⟩] 30)
      exact does_value (v := .pointer (some ⟨W.heap.size, 0, none⟩)) (w' := W.alloc (.cells #[.int .i64 0, .int .i64 0, .int .i64 0, .string ⟨#[]⟩] 30)) (by simp [execOp, go_sem]) ⟨⟨_, rfl, hC.size, heap_alloc_new W _⟩, below_more hC _, hbm.size, fun _ _ _ h _ => h.on hbm h.lt⟩
    · intro A W hC hg hb
      have g22 := hg 22 4 (by decide) rfl (by simp [Op.operands]) (by kernel_rfl) rfl
      have h30 : A.eval (.tmp 30) = .agg #[.int .i64 N0, .int .i64 N1, .int .i64 x4, .string D] := hg 21 30 (by decide) rfl (by simp [Op.operands]) (by kernel_rfl) rfl
      obtain ⟨X, h4, hlo, hX⟩ := g22
      have c0 := hX.cell (j := 0) rfl
      have c1 := hX.cell (j := 1) rfl
      have c2 := hX.cell (j := 2) rfl
      have c3 := hX.cell (j := 3) rfl
      have f0 := hX.thaw 0
      have f1 := hX.thaw 1
      have f2 := hX.thaw 2
      have f3 := hX.thaw 3
      have hX6 : BlockIs ((((W.setCell ⟨X, 0, none⟩ (.int .i64 N0)).setCell ⟨X, 1, none⟩ (.int .i64 N1)).setCell ⟨X, 2, none⟩ (.int .i64 x4)).setCell ⟨X, 3, none⟩ (.string D)) X 30 [.int .i64 N0, .int .i64 N1, .int .i64 x4, .string D] := ((((hX).set 0 (.int .i64 N0)).set 1 (.int .i64 N1)).set 2 (.int .i64 x4)).set 3 (.string D)
      refine does_skip (w' := ((((W.setCell ⟨X, 0, none⟩ (.int .i64 N0)).setCell ⟨X, 1, none⟩ (.int .i64 N1)).setCell ⟨X, 2, none⟩ (.int .i64 x4)).setCell ⟨X, 3, none⟩ (.string D))) (by simp only [execOp, h4, h30]; simp [go_sem, c0, c1, c2, c3, f0, f1, f2, f3]) ⟨⟨X, h4, hlo, hX6⟩, ((((hC).setCell hlo _).setCell hlo _).setCell hlo _).setCell hlo _, by simp [World.size_setCell], fun q ty cs hq hne => ?_⟩
      have hqX : X ≠ q := by intro e; subst e; exact hne rfl (block_one hq hX).1
      exact ((((hq).far hqX _).far hqX _).far hqX _).far hqX _
  intro vs w5 hC hg
  obtain ⟨X, hX4, hlo, hbl⟩ := hg 23 (by decide) (fun k => by simp)
  change vs 22 = _ at hX4
  clear hg
  have CH5 := hid hbl
  have X5 := hid (X0.out.on hC X0.out.lt)
  have B5 := hid (below_via B0.out hC)
  have HLO := hid (show w.heap.size < X by have := X0.out.lt; omega)
  have d0 := hbl.cell (j := 0) rfl
  have d1 := hbl.cell (j := 1) rfl
  have d2 := hbl.cell (j := 2) rfl
  have d3 := hbl.cell (j := 3) rfl
  change Exit.then _ _ _ (laidBy _ vs _ 24 _) w5
  simp only [laidBy, if_true, dstAt, List.getElem?_toArray, List.getElem?_cons_succ, List.getElem?_cons_zero, Option.bind_some]
  simp only [Act.put, List.setIfInBounds_toArray, List.set_cons_succ, List.set_cons_zero]
  rw [hX4]
  clear hX4 hC hbl q5 BLN p0 p1 p2 p3 pf0 pf1 pf2 pf3
  have cc := specSegOk_any (segOf s) (by rw [HO.out]; have := HDs.out; show D.size ≤ _; omega) w5
  have HE : Hid (SegIn s ↔ segOk (segOf s) = true) := ⟨fun h => h.2, fun h => ⟨by omega, h⟩⟩
  obtain ⟨ok, hok⟩ : ∃ ok, segOk (segOf s) = ok := ⟨_, rfl⟩
  rw [hok] at cc HE
  rw [HO.out] at cc
  dsimp only at cc
  have CC := hid cc
  clear cc hok
  go_wp2_with fail
  refine Calls.mono CC.out ?_
  rintro e w6 ⟨rfl, b6⟩
  have X6 := hid (X5.out.on b6 X5.out.lt)
  have C6 := hid (CH5.out.on b6 CH5.out.lt)
  have B6 := hid (below_via B5.out b6)
  clear b6 CC X5 CH5 B5 d0 d1 d2 d3
  have p0 := X6.out.cell (j := 0) rfl
  have p1 := X6.out.cell (j := 1) rfl
  have p2 := X6.out.cell (j := 2) rfl
  have p3 := X6.out.cell (j := 3) rfl
  have pf0 := X6.out.thaw 0
  have pf1 := X6.out.thaw 1
  have pf2 := X6.out.thaw 2
  have pf3 := X6.out.thaw 3
  have BLN := hid (((((B6.out).setCell (p := ⟨w.heap.size, 0, none⟩) (Nat.le_refl _) (.int .i64 0)).setCell (p := ⟨w.heap.size, 1, none⟩) (Nat.le_refl _) (.int .i64 0)).setCell (p := ⟨w.heap.size, 2, none⟩) (Nat.le_refl _) (.int .i64 0)).setCell (p := ⟨w.heap.size, 3, none⟩) (Nat.le_refl _) (.string ⟨#[]⟩))
  cases ok with
  | false =>
    have HN : Hid (¬ SegIn s) := fun h => by cases HE.out.1 h
    go_wp2
    refine bodyPost_ret (v := .tuple #[.agg #[.int .i64 0, .int .i64 0, .int .i64 0, .string ⟨#[]⟩], .bool false]) (by simp [results, Try.results19, go_sem, p0, p1, p2, p3]) rfl ?_
    exact ⟨Or.inr ⟨HN.out, rfl⟩, BLN.out⟩
  | true =>
    have HY : Hid (SegIn s) := HE.out.2 rfl
    have d0 := C6.out.cell (j := 0) rfl
    have d1 := C6.out.cell (j := 1) rfl
    have d2 := C6.out.cell (j := 2) rfl
    have d3 := C6.out.cell (j := 3) rfl
    have BLY := hid (((((B6.out).setCell (p := ⟨w.heap.size, 0, none⟩) (Nat.le_refl _) (.int .i64 N0)).setCell (p := ⟨w.heap.size, 1, none⟩) (Nat.le_refl _) (.int .i64 N1)).setCell (p := ⟨w.heap.size, 2, none⟩) (Nat.le_refl _) (.int .i64 x4)).setCell (p := ⟨w.heap.size, 3, none⟩) (Nat.le_refl _) (.string D))
    go_wp2
    refine bodyPost_ret (v := .tuple #[.agg #[.int .i64 N0, .int .i64 N1, .int .i64 x4, .string D], .bool true]) (by simp [results, Try.results19, go_sem, p0, p1, p2, p3]) rfl ?_
    refine ⟨Or.inl ⟨HY.out, ?_⟩, BLY.out⟩
    rw [HO.out]
end Go.Proofs.Ytgnoojbbicbklaa
