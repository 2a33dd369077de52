/-
  The walk of spec.ReadDgram: what it answers.
-/
import Derived.Test.YtpknpodmoeaggaaDgramTextS
import Derived.Test.YtpknpodmoeaggaaDgramParts
import Derived.Test.YtpknpodmoeaggaaPlainCrc
import Derived.Test.YtpknpodmoeaggaaAnyOrder
import Derived.Test.YtpknpodmoeaggaaOwnAt
namespace Go.Proofs.Ytpknpodmoeaggaa
open Go.RowKit

set_option maxRecDepth 1000000 in
set_option maxHeartbeats 4000000 in
theorem specReadDgram_any (s : ByteArray) (hs : s.size ≤ 1048576) (w : World) :
    Calls Try.prog 17 #[.string s] w fun e w' => ((DgramIn s ∧ e = .returned (.tuple #[.agg #[.int .i64 (dgramOf s).src, .int .i64 (dgramOf s).dst, .int .i64 (dgramOf s).ident, .int .i64 (dgramOf s).place, .bool (dgramOf s).more, .string (dgramOf s).body], .bool true])) ∨ (¬ DgramIn s ∧ e = .returned (.tuple #[.agg #[.int .i64 0, .int .i64 0, .int .i64 0, .int .i64 0, .bool false, .string ⟨#[]⟩], .bool false]))) ∧ Below w.heap.size w w' := by
  have hx : BlockIs (w.alloc (.cells #[.int .i64 0, .int .i64 0, .int .i64 0, .int .i64 0, .bool false, .string ⟨#[]⟩] 25)) w.heap.size 25 [.int .i64 0, .int .i64 0, .int .i64 0, .int .i64 0, .bool false, .string ⟨#[]⟩] := heap_alloc_new w _
  have B0 := hid (below_more (Below.refl w.heap.size w) (.cells #[.int .i64 0, .int .i64 0, .int .i64 0, .int .i64 0, .bool false, .string ⟨#[]⟩] 25))
  obtain ⟨W0, hW0⟩ : ∃ W, w.alloc (.cells #[.int .i64 0, .int .i64 0, .int .i64 0, .int .i64 0, .bool false, .string ⟨#[]⟩] 25) = W := ⟨_, rfl⟩
  rw [hW0] at hx B0
  have X0 := hid hx
  have p0 := hx.cell (j := 0) rfl
  have p1 := hx.cell (j := 1) rfl
  have p2 := hx.cell (j := 2) rfl
  have p3 := hx.cell (j := 3) rfl
  have p4 := hx.cell (j := 4) rfl
  have p5 := hx.cell (j := 5) rfl
  have pf0 := hx.thaw 0
  have pf1 := hx.thaw 1
  have pf2 := hx.thaw 2
  have pf3 := hx.thaw 3
  have pf4 := hx.thaw 4
  have pf5 := hx.thaw 5
  have BLN := hid (((((((B0.out).setCell (p := ⟨w.heap.size, 0, none⟩) (Nat.le_refl _) (.int .i64 0)).setCell (p := ⟨w.heap.size, 1, none⟩) (Nat.le_refl _) (.int .i64 0)).setCell (p := ⟨w.heap.size, 2, none⟩) (Nat.le_refl _) (.int .i64 0)).setCell (p := ⟨w.heap.size, 3, none⟩) (Nat.le_refl _) (.int .i64 0)).setCell (p := ⟨w.heap.size, 4, none⟩) (Nat.le_refl _) (.bool false)).setCell (p := ⟨w.heap.size, 5, none⟩) (Nat.le_refl _) (.string ⟨#[]⟩))
  clear hx
  go_enter Try.func17, Try.ntmps17
  by_cases h9 : (s.size : Int) < 9
  · have HN : Hid (¬ DgramIn s) := fun h => by have := h.1; omega
    go_wp2
    refine bodyPost_ret (v := .tuple #[.agg #[.int .i64 0, .int .i64 0, .int .i64 0, .int .i64 0, .bool false, .string ⟨#[]⟩], .bool false]) (by simp [results, Try.results17, go_sem, p0, p1, p2, p3, p4, p5]) rfl ?_
    exact ⟨Or.inr ⟨HN.out, rfl⟩, BLN.out⟩
  have h90 : 9 ≤ s.size := by omega
  have i0 : 0 < s.size := by omega
  have i1 : (1 : Int) < (s.size : Int) := by omega
  have i2 : (2 : Int) < (s.size : Int) := by omega
  have i3 : (3 : Int) < (s.size : Int) := by omega
  have i4 : (4 : Int) < (s.size : Int) := by omega
  have i5 : (5 : Int) < (s.size : Int) := by omega
  have hb0 : ((s[0]'(by omega)).toNat : Int) ≤ 255 := by have := (s[0]'(by omega)).toNat_lt; omega
  have hb1 : ((s[1]'(by omega)).toNat : Int) ≤ 255 := by have := (s[1]'(by omega)).toNat_lt; omega
  have hb2 : ((s[2]'(by omega)).toNat : Int) ≤ 255 := by have := (s[2]'(by omega)).toNat_lt; omega
  have hb3 : ((s[3]'(by omega)).toNat : Int) ≤ 255 := by have := (s[3]'(by omega)).toNat_lt; omega
  have hb4 : ((s[4]'(by omega)).toNat : Int) ≤ 255 := by have := (s[4]'(by omega)).toNat_lt; omega
  have hb5 : ((s[5]'(by omega)).toNat : Int) ≤ 255 := by have := (s[5]'(by omega)).toNat_lt; omega
  have h5g : s.data.toList.getD 5 0 = s[5]'(by omega) := by
    obtain ⟨⟨l⟩⟩ := s
    have hl : 9 ≤ l.length := h90
    match l, hl with
    | a :: b :: c :: d :: e :: f :: g :: i :: j :: r, _ => rfl
  by_cases h5 : (1 : Int) < ((s[5]'(by omega)).toNat : Int)
  · have HN : Hid (¬ DgramIn s) := fun h => by have := h.2.1; rw [h5g] at this; omega
    clear h5g
    go_wp2
    refine bodyPost_ret (v := .tuple #[.agg #[.int .i64 0, .int .i64 0, .int .i64 0, .int .i64 0, .bool false, .string ⟨#[]⟩], .bool false]) (by simp [results, Try.results17, go_sem, p0, p1, p2, p3, p4, p5]) rfl ?_
    exact ⟨Or.inr ⟨HN.out, rfl⟩, BLN.out⟩
  have h5n : (s.data.toList.getD 5 0).toNat ≤ 1 := by rw [h5g]; omega
  have q8 := slice_from (P := Try.prog) Try.underlying9 s 8 8 rfl (by omega)
  have HDs := hid (show (s.extract 8 s.size).size ≤ 1048576 by rw [ByteArray.size_extract]; omega)
  obtain ⟨D, hD⟩ : ∃ D, s.extract 8 s.size = D := ⟨_, rfl⟩
  rw [hD] at q8 HDs
  clear h5g
  obtain ⟨x0, hx0⟩ : ∃ x, ((s[0]'(by omega)).toNat : Int) = x := ⟨_, rfl⟩
  have l0 : 0 ≤ x0 ∧ x0 ≤ 255 := by omega
  have hw0 : IntKind.i64.wrap x0 = x0 := by rw [IntKind.wrap_i64]; omega
  obtain ⟨x1, hx1⟩ : ∃ x, ((s[1]'(by omega)).toNat : Int) = x := ⟨_, rfl⟩
  have l1 : 0 ≤ x1 ∧ x1 ≤ 255 := by omega
  have hw1 : IntKind.i64.wrap x1 = x1 := by rw [IntKind.wrap_i64]; omega
  obtain ⟨x2, hx2⟩ : ∃ x, ((s[2]'(by omega)).toNat : Int) = x := ⟨_, rfl⟩
  have l2 : 0 ≤ x2 ∧ x2 ≤ 255 := by omega
  have hw2 : IntKind.i64.wrap x2 = x2 := by rw [IntKind.wrap_i64]; omega
  obtain ⟨x3, hx3⟩ : ∃ x, ((s[3]'(by omega)).toNat : Int) = x := ⟨_, rfl⟩
  have l3 : 0 ≤ x3 ∧ x3 ≤ 255 := by omega
  have hw3 : IntKind.i64.wrap x3 = x3 := by rw [IntKind.wrap_i64]; omega
  obtain ⟨x4, hx4⟩ : ∃ x, ((s[4]'(by omega)).toNat : Int) = x := ⟨_, rfl⟩
  have l4 : 0 ≤ x4 ∧ x4 ≤ 255 := by omega
  have hw4 : IntKind.i64.wrap x4 = x4 := by rw [IntKind.wrap_i64]; omega
  obtain ⟨x5, hx5⟩ : ∃ x, ((s[5]'(by omega)).toNat : Int) = x := ⟨_, rfl⟩
  have l5 : 0 ≤ x5 ∧ x5 ≤ 255 := by omega
  have hw5 : IntKind.i64.wrap x5 = x5 := by rw [IntKind.wrap_i64]; omega
  obtain ⟨B, hB⟩ : ∃ B, (x5 == 1) = B := ⟨_, rfl⟩
  have HO : Hid (dgramOf s = ⟨x0, x1, ((256 : Int) * x2 + x3), ((8 : Int) * x4), B, D⟩) := by
    show _ = _
    rw [dgramOf_at (by omega), hD, hx0, hx1, hx2, hx3, hx4, ← hB, ← hx5]
    congr 1
    by_cases h : (s[5]'(by omega)).toNat = 1
    · simp [h]
    · have h2 : ¬ ((s[5]'(by omega)).toNat : Int) = 1 := by omega
      simp [h, h2]
  have hm2 : IntKind.i64.wrap ((256 : Int) * x2) = ((256 : Int) * x2) := by rw [IntKind.wrap_i64]; omega
  have ha3 : IntKind.i64.wrap ((256 : Int) * x2 + x3) = ((256 : Int) * x2 + x3) := by rw [IntKind.wrap_i64]; omega
  have hm4 : IntKind.i64.wrap ((8 : Int) * x4) = ((8 : Int) * x4) := by rw [IntKind.wrap_i64]; omega
  clear hD
  go_wp2
  refine wp_region_each (N := 54) (by kernel_rfl) (by kernel_rfl) rfl (by kernel_rfl) (fun W => Below W0.heap.size W0 W) (fun j v u W => match j with | 0 => v = .string s | 1 => v = .int .u8 x0 | 2 => v = .int .i64 x0 | 3 => v = .string s | 4 => v = .int .u8 x1 | 5 => v = .int .i64 x1 | 6 => v = .string s | 7 => v = .int .u8 x2 | 8 => v = .int .i64 x2 | 9 => v = .int .i64 ((256 : Int) * x2) | 10 => v = .string s | 11 => v = .int .u8 x3 | 12 => v = .int .i64 x3 | 13 => v = .int .i64 ((256 : Int) * x2 + x3) | 14 => v = .string s | 15 => v = .int .u8 x4 | 16 => v = .int .i64 x4 | 17 => v = .int .i64 ((8 : Int) * x4) | 18 => v = .string s | 19 => v = .int .u8 x5 | 20 => v = .bool B | 21 => v = .string s | 22 => v = .string D | 23 => v = .agg #[.int .i64 x0, .int .i64 x1, .int .i64 ((256 : Int) * x2 + x3), .int .i64 ((8 : Int) * x4), .bool B, .string D] | 24 => ∃ X, v = .pointer (some ⟨X, 0, none⟩) ∧ W0.heap.size ≤ X ∧ BlockIs W X 25 [.int .i64 0, .int .i64 0, .int .i64 0, .int .i64 0, .bool false, .string ⟨#[]⟩] | 25 => ∃ X, u = .pointer (some ⟨X, 0, none⟩) ∧ W0.heap.size ≤ X ∧ BlockIs W X 25 [.int .i64 x0, .int .i64 x1, .int .i64 ((256 : Int) * x2 + x3), .int .i64 ((8 : Int) * x4), .bool B, .string D] | _ => True) (fun i => if i = 25 then 24 else i) (fun j i => decide ((j, i) ∈ ([(24, 25)] : List (Nat × Nat)))) (fun i x y => x.heap.size ≤ y.heap.size ∧ ∀ g ty cs, BlockIs x g ty cs → (i = 25 → ty ≠ 25) → BlockIs y g ty cs) (fun i => if i = 25 then 4 else 0) (by kernel_rfl) (fun i hi => by have : 26 ≤ i := hi; simp; omega) ?_ (below_drewN (Below.refl _ _) 1) ?_ ?_
  · intro i j v u x y hij hdd hwt hxy hg
    match j, hg with
    | 0, hg => exact hg
    | 1, hg => exact hg
    | 2, hg => exact hg
    | 3, hg => exact hg
    | 4, hg => exact hg
    | 5, hg => exact hg
    | 6, hg => exact hg
    | 7, hg => exact hg
    | 8, hg => exact hg
    | 9, hg => exact hg
    | 10, hg => exact hg
    | 11, hg => exact hg
    | 12, hg => exact hg
    | 13, hg => exact hg
    | 14, hg => exact hg
    | 15, hg => exact hg
    | 16, hg => exact hg
    | 17, hg => exact hg
    | 18, hg => exact hg
    | 19, hg => exact hg
    | 20, hg => exact hg
    | 21, hg => exact hg
    | 22, hg => exact hg
    | 23, hg => exact hg
    | 24, hg =>
      obtain ⟨X, e1, e2, e3⟩ := hg
      simp at hdd
      exact ⟨X, e1, e2, hxy.2 _ _ _ e3 (fun e => absurd e hdd)⟩
    | 25, hg =>
      obtain ⟨X, e1, e2, e3⟩ := hg
      exact ⟨X, e1, e2, hxy.2 _ _ _ e3 (fun e => absurd e hij)⟩
    | n + 26, _ => exact trivial
  · refine ⟨?_, ?_, ?_, ?_, ?_, ?_, ?_, ?_, ?_, ?_, ?_, ?_, ?_, ?_, ?_, ?_, ?_, ?_, ?_, ?_, ?_, ?_, ?_, ?_, ?_, ?_, trivial⟩
    · intro A W hC hg hb
      have h0 : A.eval (.tmp 0) = .string s := hb 0 (base_of (by kernel_rfl))
      exact does_value (v := .string s) (w' := W) (by simp only [execOp, h0]; simp [go_sem]) ⟨rfl, hC, Nat.le_refl _, fun _ _ _ h _ => h⟩
    · intro A W hC hg hb
      have h16 : A.eval (.tmp 16) = .string s := hg 0 16 (by decide) rfl (by simp [Op.operands]) (by kernel_rfl) rfl
      exact does_value (v := .int .u8 x0) (w' := W) (by simp only [execOp, h16]; simp [go_sem, i0, hx0]) ⟨rfl, hC, Nat.le_refl _, fun _ _ _ h _ => h⟩
    · intro A W hC hg hb
      have h17 : A.eval (.tmp 17) = .int .u8 x0 := hg 1 17 (by decide) rfl (by simp [Op.operands]) (by kernel_rfl) rfl
      exact does_value (v := .int .i64 x0) (w' := W) (by simp only [execOp, h17]; simp [go_sem, hw0]) ⟨rfl, hC, Nat.le_refl _, fun _ _ _ h _ => h⟩
    · intro A W hC hg hb
      have h0 : A.eval (.tmp 0) = .string s := hb 0 (base_of (by kernel_rfl))
      exact does_value (v := .string s) (w' := W) (by simp only [execOp, h0]; simp [go_sem]) ⟨rfl, hC, Nat.le_refl _, fun _ _ _ h _ => h⟩
    · intro A W hC hg hb
      have h19 : A.eval (.tmp 19) = .string s := hg 3 19 (by decide) rfl (by simp [Op.operands]) (by kernel_rfl) rfl
      exact does_value (v := .int .u8 x1) (w' := W) (by simp only [execOp, h19]; simp [go_sem, i1, hx1]) ⟨rfl, hC, Nat.le_refl _, fun _ _ _ h _ => h⟩
    · intro A W hC hg hb
      have h20 : A.eval (.tmp 20) = .int .u8 x1 := hg 4 20 (by decide) rfl (by simp [Op.operands]) (by kernel_rfl) rfl
      exact does_value (v := .int .i64 x1) (w' := W) (by simp only [execOp, h20]; simp [go_sem, hw1]) ⟨rfl, hC, Nat.le_refl _, fun _ _ _ h _ => h⟩
    · intro A W hC hg hb
      have h0 : A.eval (.tmp 0) = .string s := hb 0 (base_of (by kernel_rfl))
      exact does_value (v := .string s) (w' := W) (by simp only [execOp, h0]; simp [go_sem]) ⟨rfl, hC, Nat.le_refl _, fun _ _ _ h _ => h⟩
    · intro A W hC hg hb
      have h22 : A.eval (.tmp 22) = .string s := hg 6 22 (by decide) rfl (by simp [Op.operands]) (by kernel_rfl) rfl
      exact does_value (v := .int .u8 x2) (w' := W) (by simp only [execOp, h22]; simp [go_sem, i2, hx2]) ⟨rfl, hC, Nat.le_refl _, fun _ _ _ h _ => h⟩
    · intro A W hC hg hb
      have h23 : A.eval (.tmp 23) = .int .u8 x2 := hg 7 23 (by decide) rfl (by simp [Op.operands]) (by kernel_rfl) rfl
      exact does_value (v := .int .i64 x2) (w' := W) (by simp only [execOp, h23]; simp [go_sem, hw2]) ⟨rfl, hC, Nat.le_refl _, fun _ _ _ h _ => h⟩
    · intro A W hC hg hb
      have h24 : A.eval (.tmp 24) = .int .i64 x2 := hg 8 24 (by decide) rfl (by simp [Op.operands]) (by kernel_rfl) rfl
      exact does_value (v := .int .i64 ((256 : Int) * x2)) (w' := W) (by simp only [execOp, h24]; simp [go_sem, hm2]) ⟨rfl, hC, Nat.le_refl _, fun _ _ _ h _ => h⟩
    · intro A W hC hg hb
      have h0 : A.eval (.tmp 0) = .string s := hb 0 (base_of (by kernel_rfl))
      exact does_value (v := .string s) (w' := W) (by simp only [execOp, h0]; simp [go_sem]) ⟨rfl, hC, Nat.le_refl _, fun _ _ _ h _ => h⟩
    · intro A W hC hg hb
      have h26 : A.eval (.tmp 26) = .string s := hg 10 26 (by decide) rfl (by simp [Op.operands]) (by kernel_rfl) rfl
      exact does_value (v := .int .u8 x3) (w' := W) (by simp only [execOp, h26]; simp [go_sem, i3, hx3]) ⟨rfl, hC, Nat.le_refl _, fun _ _ _ h _ => h⟩
    · intro A W hC hg hb
      have h27 : A.eval (.tmp 27) = .int .u8 x3 := hg 11 27 (by decide) rfl (by simp [Op.operands]) (by kernel_rfl) rfl
      exact does_value (v := .int .i64 x3) (w' := W) (by simp only [execOp, h27]; simp [go_sem, hw3]) ⟨rfl, hC, Nat.le_refl _, fun _ _ _ h _ => h⟩
    · intro A W hC hg hb
      have h25 : A.eval (.tmp 25) = .int .i64 ((256 : Int) * x2) := hg 9 25 (by decide) rfl (by simp [Op.operands]) (by kernel_rfl) rfl
      have h28 : A.eval (.tmp 28) = .int .i64 x3 := hg 12 28 (by decide) rfl (by simp [Op.operands]) (by kernel_rfl) rfl
      exact does_value (v := .int .i64 ((256 : Int) * x2 + x3)) (w' := W) (by simp only [execOp, h25, h28]; simp [go_sem, ha3]) ⟨rfl, hC, Nat.le_refl _, fun _ _ _ h _ => h⟩
    · intro A W hC hg hb
      have h0 : A.eval (.tmp 0) = .string s := hb 0 (base_of (by kernel_rfl))
      exact does_value (v := .string s) (w' := W) (by simp only [execOp, h0]; simp [go_sem]) ⟨rfl, hC, Nat.le_refl _, fun _ _ _ h _ => h⟩
    · intro A W hC hg hb
      have h30 : A.eval (.tmp 30) = .string s := hg 14 30 (by decide) rfl (by simp [Op.operands]) (by kernel_rfl) rfl
      exact does_value (v := .int .u8 x4) (w' := W) (by simp only [execOp, h30]; simp [go_sem, i4, hx4]) ⟨rfl, hC, Nat.le_refl _, fun _ _ _ h _ => h⟩
    · intro A W hC hg hb
      have h31 : A.eval (.tmp 31) = .int .u8 x4 := hg 15 31 (by decide) rfl (by simp [Op.operands]) (by kernel_rfl) rfl
      exact does_value (v := .int .i64 x4) (w' := W) (by simp only [execOp, h31]; simp [go_sem, hw4]) ⟨rfl, hC, Nat.le_refl _, fun _ _ _ h _ => h⟩
    · intro A W hC hg hb
      have h32 : A.eval (.tmp 32) = .int .i64 x4 := hg 16 32 (by decide) rfl (by simp [Op.operands]) (by kernel_rfl) rfl
      exact does_value (v := .int .i64 ((8 : Int) * x4)) (w' := W) (by simp only [execOp, h32]; simp [go_sem, hm4]) ⟨rfl, hC, Nat.le_refl _, fun _ _ _ h _ => h⟩
    · intro A W hC hg hb
      have h0 : A.eval (.tmp 0) = .string s := hb 0 (base_of (by kernel_rfl))
      exact does_value (v := .string s) (w' := W) (by simp only [execOp, h0]; simp [go_sem]) ⟨rfl, hC, Nat.le_refl _, fun _ _ _ h _ => h⟩
    · intro A W hC hg hb
      have h34 : A.eval (.tmp 34) = .string s := hg 18 34 (by decide) rfl (by simp [Op.operands]) (by kernel_rfl) rfl
      exact does_value (v := .int .u8 x5) (w' := W) (by simp only [execOp, h34]; simp [go_sem, i5, hx5]) ⟨rfl, hC, Nat.le_refl _, fun _ _ _ h _ => h⟩
    · intro A W hC hg hb
      have h35 : A.eval (.tmp 35) = .int .u8 x5 := hg 19 35 (by decide) rfl (by simp [Op.operands]) (by kernel_rfl) rfl
      exact does_value (v := .bool B) (w' := W) (by simp only [execOp, h35]; simp [go_sem, hB]) ⟨rfl, hC, Nat.le_refl _, fun _ _ _ h _ => h⟩
    · intro A W hC hg hb
      have h0 : A.eval (.tmp 0) = .string s := hb 0 (base_of (by kernel_rfl))
      exact does_value (v := .string s) (w' := W) (by simp only [execOp, h0]; simp [go_sem]) ⟨rfl, hC, Nat.le_refl _, fun _ _ _ h _ => h⟩
    · intro A W hC hg hb
      have h37 : A.eval (.tmp 37) = .string s := hg 21 37 (by decide) rfl (by simp [Op.operands]) (by kernel_rfl) rfl
      exact does_value (v := .string D) (w' := W) (by simp only [execOp, h37]; simp [go_sem, q8]) ⟨rfl, hC, Nat.le_refl _, fun _ _ _ h _ => h⟩
    · intro A W hC hg hb
      have h18 : A.eval (.tmp 18) = .int .i64 x0 := hg 2 18 (by decide) rfl (by simp [Op.operands]) (by kernel_rfl) rfl
      have h21 : A.eval (.tmp 21) = .int .i64 x1 := hg 5 21 (by decide) rfl (by simp [Op.operands]) (by kernel_rfl) rfl
      have h29 : A.eval (.tmp 29) = .int .i64 ((256 : Int) * x2 + x3) := hg 13 29 (by decide) rfl (by simp [Op.operands]) (by kernel_rfl) rfl
      have h33 : A.eval (.tmp 33) = .int .i64 ((8 : Int) * x4) := hg 17 33 (by decide) rfl (by simp [Op.operands]) (by kernel_rfl) rfl
      have h36 : A.eval (.tmp 36) = .bool B := hg 20 36 (by decide) rfl (by simp [Op.operands]) (by kernel_rfl) rfl
      have h38 : A.eval (.tmp 38) = .string D := hg 22 38 (by decide) rfl (by simp [Op.operands]) (by kernel_rfl) rfl
      simp [go_sem] at h18 h21 h29 h33 h36 h38
      exact does_value (v := .agg #[.int .i64 x0, .int .i64 x1, .int .i64 ((256 : Int) * x2 + x3), .int .i64 ((8 : Int) * x4), .bool B, .string D]) (w' := W) (by simp [execOp, go_sem, h18, h21, h29, h33, h36, h38]) ⟨rfl, hC, Nat.le_refl _, fun _ _ _ h _ => h⟩
    · intro A W hC hg hb
      have hbm := below_more (Below.refl W.heap.size W) (.cells #[.int .i64 0, .int .i64 0, .int .i64 0, .int .i64 0, .bool false, .string ⟨#[]⟩] 25)
      exact does_value (v := .pointer (some ⟨W.heap.size, 0, none⟩)) (w' := W.alloc (.cells #[.int .i64 0, .int .i64 0, .int .i64 0, .int .i64 0, .bool false, .string ⟨#[]⟩] 25)) (by simp [execOp, go_sem]) ⟨⟨_, rfl, hC.size, heap_alloc_new W _⟩, below_more hC _, hbm.size, fun _ _ _ h _ => h.on hbm h.lt⟩
    · intro A W hC hg hb
      have g24 := hg 24 4 (by decide) rfl (by simp [Op.operands]) (by kernel_rfl) rfl
      have h39 : A.eval (.tmp 39) = .agg #[.int .i64 x0, .int .i64 x1, .int .i64 ((256 : Int) * x2 + x3), .int .i64 ((8 : Int) * x4), .bool B, .string D] := hg 23 39 (by decide) rfl (by simp [Op.operands]) (by kernel_rfl) rfl
      obtain ⟨X, h4, hlo, hX⟩ := g24
      have c0 := hX.cell (j := 0) rfl
      have c1 := hX.cell (j := 1) rfl
      have c2 := hX.cell (j := 2) rfl
      have c3 := hX.cell (j := 3) rfl
      have c4 := hX.cell (j := 4) rfl
      have c5 := hX.cell (j := 5) rfl
      have f0 := hX.thaw 0
      have f1 := hX.thaw 1
      have f2 := hX.thaw 2
      have f3 := hX.thaw 3
      have f4 := hX.thaw 4
      have f5 := hX.thaw 5
      have hX6 : BlockIs ((((((W.setCell ⟨X, 0, none⟩ (.int .i64 x0)).setCell ⟨X, 1, none⟩ (.int .i64 x1)).setCell ⟨X, 2, none⟩ (.int .i64 ((256 : Int) * x2 + x3))).setCell ⟨X, 3, none⟩ (.int .i64 ((8 : Int) * x4))).setCell ⟨X, 4, none⟩ (.bool B)).setCell ⟨X, 5, none⟩ (.string D)) X 25 [.int .i64 x0, .int .i64 x1, .int .i64 ((256 : Int) * x2 + x3), .int .i64 ((8 : Int) * x4), .bool B, .string D] := ((((((hX).set 0 (.int .i64 x0)).set 1 (.int .i64 x1)).set 2 (.int .i64 ((256 : Int) * x2 + x3))).set 3 (.int .i64 ((8 : Int) * x4))).set 4 (.bool B)).set 5 (.string D)
      refine does_skip (w' := ((((((W.setCell ⟨X, 0, none⟩ (.int .i64 x0)).setCell ⟨X, 1, none⟩ (.int .i64 x1)).setCell ⟨X, 2, none⟩ (.int .i64 ((256 : Int) * x2 + x3))).setCell ⟨X, 3, none⟩ (.int .i64 ((8 : Int) * x4))).setCell ⟨X, 4, none⟩ (.bool B)).setCell ⟨X, 5, none⟩ (.string D))) (by simp only [execOp, h4, h39]; simp [go_sem, c0, c1, c2, c3, c4, c5, f0, f1, f2, f3, f4, f5]) ⟨⟨X, h4, hlo, hX6⟩, ((((((hC).setCell hlo _).setCell hlo _).setCell hlo _).setCell hlo _).setCell hlo _).setCell hlo _, by simp [World.size_setCell], fun q ty cs hq hne => ?_⟩
      have hqX : X ≠ q := by intro e; subst e; exact hne rfl (block_one hq hX).1
      exact ((((((hq).far hqX _).far hqX _).far hqX _).far hqX _).far hqX _).far hqX _
  intro vs w5 hC hg
  obtain ⟨X, hX4, hlo, hbl⟩ := hg 25 (by decide) (fun k => by simp)
  change vs 24 = _ at hX4
  clear hg
  have CH5 := hid hbl
  have X5 := hid (X0.out.on hC X0.out.lt)
  have B5 := hid (below_via B0.out hC)
  have HLO := hid (show w.heap.size < X by have := X0.out.lt; omega)
  have d0 := hbl.cell (j := 0) rfl
  have d1 := hbl.cell (j := 1) rfl
  have d2 := hbl.cell (j := 2) rfl
  have d3 := hbl.cell (j := 3) rfl
  have d4 := hbl.cell (j := 4) rfl
  have d5 := hbl.cell (j := 5) rfl
  change Exit.then _ _ _ (laidBy _ vs _ 26 _) w5
  simp only [laidBy, if_true, dstAt, List.getElem?_toArray, List.getElem?_cons_succ, List.getElem?_cons_zero, Option.bind_some]
  simp only [Act.put, List.setIfInBounds_toArray, List.set_cons_succ, List.set_cons_zero]
  rw [hX4]
  clear hX4 hC hbl q8 BLN p0 p1 p2 p3 p4 p5 pf0 pf1 pf2 pf3 pf4 pf5
  have cc := specDgramText_any (dgramOf s) (by rw [HO.out]; have := HDs.out; show D.size ≤ _; omega) w5
  obtain ⟨back, ok, hbk⟩ : ∃ T ok, dgramText (dgramOf s) = (T, ok) := ⟨_, _, rfl⟩
  rw [hbk] at cc
  dsimp only at cc
  rw [HO.out] at cc
  dsimp only at cc
  have CC := hid cc
  have HBK := hid hbk
  clear cc hbk
  go_wp2_with fail
  refine Calls.mono CC.out ?_
  rintro e w6 ⟨rfl, b6⟩
  have X6 := hid (X5.out.on b6 X5.out.lt)
  have C6 := hid (CH5.out.on b6 CH5.out.lt)
  have B6 := hid (below_via B5.out b6)
  clear b6 CC X5 CH5 B5 d0 d1 d2 d3 d4 d5
  have p0 := X6.out.cell (j := 0) rfl
  have p1 := X6.out.cell (j := 1) rfl
  have p2 := X6.out.cell (j := 2) rfl
  have p3 := X6.out.cell (j := 3) rfl
  have p4 := X6.out.cell (j := 4) rfl
  have p5 := X6.out.cell (j := 5) rfl
  have pf0 := X6.out.thaw 0
  have pf1 := X6.out.thaw 1
  have pf2 := X6.out.thaw 2
  have pf3 := X6.out.thaw 3
  have pf4 := X6.out.thaw 4
  have pf5 := X6.out.thaw 5
  have BLN := hid (((((((B6.out).setCell (p := ⟨w.heap.size, 0, none⟩) (Nat.le_refl _) (.int .i64 0)).setCell (p := ⟨w.heap.size, 1, none⟩) (Nat.le_refl _) (.int .i64 0)).setCell (p := ⟨w.heap.size, 2, none⟩) (Nat.le_refl _) (.int .i64 0)).setCell (p := ⟨w.heap.size, 3, none⟩) (Nat.le_refl _) (.int .i64 0)).setCell (p := ⟨w.heap.size, 4, none⟩) (Nat.le_refl _) (.bool false)).setCell (p := ⟨w.heap.size, 5, none⟩) (Nat.le_refl _) (.string ⟨#[]⟩))
  cases ok with
  | false =>
    have HN : Hid (¬ DgramIn s) := fun h => by have := dgramText_yes h.2.2.1; rw [HBK.out] at this; cases congrArg Prod.snd this
    go_wp2
    refine bodyPost_ret (v := .tuple #[.agg #[.int .i64 0, .int .i64 0, .int .i64 0, .int .i64 0, .bool false, .string ⟨#[]⟩], .bool false]) (by simp [results, Try.results17, go_sem, p0, p1, p2, p3, p4, p5]) rfl ?_
    exact ⟨Or.inr ⟨HN.out, rfl⟩, BLN.out⟩
  | true =>
    obtain ⟨hok, hbt⟩ := dtext_parts HBK.out
    by_cases heq : back = s
    · have HY : Hid (DgramIn s) := dgramIn_of hok (by rw [← hbt]; exact heq)
      have hss : (back.toList == s.toList) = true := by rw [heq]; simp
      clear hok hbt heq
      have d0 := C6.out.cell (j := 0) rfl
      have d1 := C6.out.cell (j := 1) rfl
      have d2 := C6.out.cell (j := 2) rfl
      have d3 := C6.out.cell (j := 3) rfl
      have d4 := C6.out.cell (j := 4) rfl
      have d5 := C6.out.cell (j := 5) rfl
      have BLY := hid (((((((B6.out).setCell (p := ⟨w.heap.size, 0, none⟩) (Nat.le_refl _) (.int .i64 x0)).setCell (p := ⟨w.heap.size, 1, none⟩) (Nat.le_refl _) (.int .i64 x1)).setCell (p := ⟨w.heap.size, 2, none⟩) (Nat.le_refl _) (.int .i64 ((256 : Int) * x2 + x3))).setCell (p := ⟨w.heap.size, 3, none⟩) (Nat.le_refl _) (.int .i64 ((8 : Int) * x4))).setCell (p := ⟨w.heap.size, 4, none⟩) (Nat.le_refl _) (.bool B)).setCell (p := ⟨w.heap.size, 5, none⟩) (Nat.le_refl _) (.string D))
      go_wp2
      refine bodyPost_ret (v := .tuple #[.agg #[.int .i64 x0, .int .i64 x1, .int .i64 ((256 : Int) * x2 + x3), .int .i64 ((8 : Int) * x4), .bool B, .string D], .bool true]) (by simp [results, Try.results17, go_sem, p0, p1, p2, p3, p4, p5]) rfl ?_
      refine ⟨Or.inl ⟨HY.out, ?_⟩, BLY.out⟩
      rw [HO.out]
    · have HN : Hid (¬ DgramIn s) := fun h => heq (by rw [hbt]; exact h.2.2.2)
      have hss : (back.toList == s.toList) = false := by
        rw [beq_eq_false_iff_ne, ByteArray.toList_eq, ByteArray.toList_eq]
        exact fun h => heq (ByteArray.ext (Array.toList_inj.1 h))
      clear hok hbt heq
      go_wp2
      refine bodyPost_ret (v := .tuple #[.agg #[.int .i64 0, .int .i64 0, .int .i64 0, .int .i64 0, .bool false, .string ⟨#[]⟩], .bool false]) (by simp [results, Try.results17, go_sem, p0, p1, p2, p3, p4, p5]) rfl ?_
      exact ⟨Or.inr ⟨HN.out, rfl⟩, BLN.out⟩
end Go.Proofs.Ytpknpodmoeaggaa
