/-
  The walk of impl.ReadSeg: what it answers.
-/
import Derived.Test.YtgnoojbbicbklaaSegOkI
import Derived.Test.YtgnoojbbicbklaaClone
import Derived.Test.YtgnoojbbicbklaaNumAtI
import Derived.Test.YtgnoojbbicbklaaPlainCrc
import Derived.Test.YtgnoojbbicbklaaAnyOrder
import Derived.Test.YtgnoojbbicbklaaOwnAt
namespace Go.Proofs.Ytgnoojbbicbklaa
open Go.RowKit

set_option maxRecDepth 1000000 in
set_option maxHeartbeats 4000000 in
theorem implReadSeg_any (s : ByteArray) (hs : s.size ≤ 1048576) (w : World) :
    Calls Try.prog 17 #[.string s] w fun e w' => ((SegIn s ∧ e = .returned (.tuple #[.agg #[.int .i64 (segOf s).num, .int .i64 (segOf s).ack, .int .i64 (segOf s).flags, .string (segOf s).body], .bool true])) ∨ (¬ SegIn s ∧ e = .returned (.tuple #[.agg #[.int .i64 0, .int .i64 0, .int .i64 0, .string ⟨#[]⟩], .bool false]))) ∧ Below w.heap.size w w' := by
  have hx : BlockIs (w.alloc (.cells #[.int .i64 0, .int .i64 0, .int .i64 0, .string ⟨#[]⟩] 30)) w.heap.size 30 [.int .i64 0, .int .i64 0, .int .i64 0, .string ⟨#[]⟩] := heap_alloc_new w _
  have B0 := hid (below_more (Below.refl w.heap.size w) (.cells #[.int .i64 0, .int .i64 0, .int .i64 0, .string ⟨#[]⟩] 30))
  obtain ⟨W0, hW0⟩ : ∃ W, w.alloc (.cells #[.int .i64 0, .int .i64 0, .int .i64 0, .string ⟨#[]⟩] 30) = W := ⟨_, rfl⟩
  rw [hW0] at hx B0
  have X0 := hid hx
  have p0 := hx.cell (j := 0) rfl
  have p1 := hx.cell (j := 1) rfl
  have p2 := hx.cell (j := 2) rfl
  have p3 := hx.cell (j := 3) rfl
  have pf0 := hx.thaw 0
  have pf1 := hx.thaw 1
  have pf2 := hx.thaw 2
  have pf3 := hx.thaw 3
  have BLN := hid (((((B0.out).setCell (p := ⟨w.heap.size, 0, none⟩) (Nat.le_refl _) (.int .i64 0)).setCell (p := ⟨w.heap.size, 1, none⟩) (Nat.le_refl _) (.int .i64 0)).setCell (p := ⟨w.heap.size, 2, none⟩) (Nat.le_refl _) (.int .i64 0)).setCell (p := ⟨w.heap.size, 3, none⟩) (Nat.le_refl _) (.string ⟨#[]⟩))
  clear hx
  go_enter Try.func17, Try.ntmps17
  by_cases h9 : (s.size : Int) < 5
  · have HN : Hid (¬ SegIn s) := fun h => by have := h.1; omega
    go_wp2
    refine bodyPost_ret (v := .tuple #[.agg #[.int .i64 0, .int .i64 0, .int .i64 0, .string ⟨#[]⟩], .bool false]) (by simp [results, Try.results17, go_sem, p0, p1, p2, p3]) rfl ?_
    exact ⟨Or.inr ⟨HN.out, rfl⟩, BLN.out⟩
  have i0 : 0 < s.size := by omega
  have i1 : (1 : Int) < (s.size : Int) := by omega
  have i2 : (2 : Int) < (s.size : Int) := by omega
  have i3 : (3 : Int) < (s.size : Int) := by omega
  have i4 : (4 : Int) < (s.size : Int) := by omega
  have hb0 : ((s[0]'(by omega)).toNat : Int) ≤ 255 := by have := (s[0]'(by omega)).toNat_lt; omega
  have hb1 : ((s[1]'(by omega)).toNat : Int) ≤ 255 := by have := (s[1]'(by omega)).toNat_lt; omega
  have hb2 : ((s[2]'(by omega)).toNat : Int) ≤ 255 := by have := (s[2]'(by omega)).toNat_lt; omega
  have hb3 : ((s[3]'(by omega)).toNat : Int) ≤ 255 := by have := (s[3]'(by omega)).toNat_lt; omega
  have hb4 : ((s[4]'(by omega)).toNat : Int) ≤ 255 := by have := (s[4]'(by omega)).toNat_lt; omega
  have q5 := slice_from (P := Try.prog) Try.underlying9 s 5 5 rfl (by omega)
  have HDs := hid (show (s.extract 5 s.size).size ≤ 1048576 by rw [ByteArray.size_extract]; omega)
  have HO := hid (segOf_at (U := s) (by omega))
  have D0 := hid (fun W => numAt_0 s (by omega) hs W)
  have D2 := hid (fun W => numAt_2 s (by omega) hs W)
  obtain ⟨D, hD⟩ : ∃ D, s.extract 5 s.size = D := ⟨_, rfl⟩
  rw [hD] at q5 HDs HO
  obtain ⟨x0, hx0⟩ : ∃ x, ((s[0]'(by omega)).toNat : Int) = x := ⟨_, rfl⟩
  have l0 : 0 ≤ x0 := by omega
  rw [hx0] at HO hb0 D0
  have hw0 : IntKind.i64.wrap x0 = x0 := by rw [IntKind.wrap_i64]; omega
  obtain ⟨x1, hx1⟩ : ∃ x, ((s[1]'(by omega)).toNat : Int) = x := ⟨_, rfl⟩
  have l1 : 0 ≤ x1 := by omega
  rw [hx1] at HO hb1 D0
  have hw1 : IntKind.i64.wrap x1 = x1 := by rw [IntKind.wrap_i64]; omega
  obtain ⟨x2, hx2⟩ : ∃ x, ((s[2]'(by omega)).toNat : Int) = x := ⟨_, rfl⟩
  have l2 : 0 ≤ x2 := by omega
  rw [hx2] at HO hb2 D2
  have hw2 : IntKind.i64.wrap x2 = x2 := by rw [IntKind.wrap_i64]; omega
  obtain ⟨x3, hx3⟩ : ∃ x, ((s[3]'(by omega)).toNat : Int) = x := ⟨_, rfl⟩
  have l3 : 0 ≤ x3 := by omega
  rw [hx3] at HO hb3 D2
  have hw3 : IntKind.i64.wrap x3 = x3 := by rw [IntKind.wrap_i64]; omega
  obtain ⟨x4, hx4⟩ : ∃ x, ((s[4]'(by omega)).toNat : Int) = x := ⟨_, rfl⟩
  have l4 : 0 ≤ x4 := by omega
  rw [hx4] at HO hb4
  have hw4 : IntKind.i64.wrap x4 = x4 := by rw [IntKind.wrap_i64]; omega
  obtain ⟨N0, hn0⟩ : ∃ x, (256 : Int) * x0 + x1 = x := ⟨_, rfl⟩
  have ln0 : 0 ≤ N0 ∧ N0 ≤ 65535 := by omega
  have hnw0 : IntKind.i64.wrap N0 = N0 := by rw [IntKind.wrap_i64]; omega
  rw [hn0] at HO D0
  obtain ⟨N1, hn1⟩ : ∃ x, (256 : Int) * x2 + x3 = x := ⟨_, rfl⟩
  have ln1 : 0 ≤ N1 ∧ N1 ≤ 65535 := by omega
  have hnw1 : IntKind.i64.wrap N1 = N1 := by rw [IntKind.wrap_i64]; omega
  rw [hn1] at HO D2
  clear hD
  go_wp2
  refine wp_region_each (N := 30) (by kernel_rfl) (by kernel_rfl) rfl (by kernel_rfl) (fun W => Below W0.heap.size W0 W) (fun j v u W => match j with | 0 => v = .string s | 1 => v = .int .u16 N0 | 2 => v = .int .i64 N0 | 3 => v = .string s | 4 => v = .int .u16 N1 | 5 => v = .int .i64 N1 | 6 => v = .string s | 7 => v = .int .u8 x4 | 8 => v = .int .i64 x4 | 9 => v = .string s | 10 => v = .string D | 11 => v = .agg #[.int .i64 N0, .int .i64 N1, .int .i64 x4, .string D] | 12 => ∃ X, v = .pointer (some ⟨X, 0, none⟩) ∧ W0.heap.size ≤ X ∧ BlockIs W X 30 [.int .i64 0, .int .i64 0, .int .i64 0, .string ⟨#[]⟩] | 13 => ∃ X, u = .pointer (some ⟨X, 0, none⟩) ∧ W0.heap.size ≤ X ∧ BlockIs W X 30 [.int .i64 N0, .int .i64 N1, .int .i64 x4, .string D] | _ => True) (fun i => if i = 13 then 12 else i) (fun j i => decide ((j, i) ∈ ([(12, 13)] : List (Nat × Nat)))) (fun i x y => x.heap.size ≤ y.heap.size ∧ ∀ g ty cs, BlockIs x g ty cs → (i = 13 → ty ≠ 30) → BlockIs y g ty cs) (fun i => if i = 13 then 4 else 0) (by kernel_rfl) (fun i hi => by have : 14 ≤ i := hi; simp; omega) ?_ (below_drewN (Below.refl _ _) 1) ?_ ?_
  · intro i j v u x y hij hdd hwt hxy hg
    match j, hg with
    | 0, hg => exact hg
    | 1, hg => exact hg
    | 2, hg => exact hg
    | 3, hg => exact hg
    | 4, hg => exact hg
    | 5, hg => exact hg
    | 6, hg => exact hg
    | 7, hg => exact hg
    | 8, hg => exact hg
    | 9, hg => exact hg
    | 10, hg => exact hg
    | 11, hg => exact hg
    | 12, hg =>
      obtain ⟨X, e1, e2, e3⟩ := hg
      simp at hdd
      exact ⟨X, e1, e2, hxy.2 _ _ _ e3 (fun e => absurd e hdd)⟩
    | 13, hg =>
      obtain ⟨X, e1, e2, e3⟩ := hg
      exact ⟨X, e1, e2, hxy.2 _ _ _ e3 (fun e => absurd e hij)⟩
    | n + 14, _ => exact trivial
  · refine ⟨?_, ?_, ?_, ?_, ?_, ?_, ?_, ?_, ?_, ?_, ?_, ?_, ?_, ?_, trivial⟩
    · intro A W hC hg hb
      have h0 : A.eval (.tmp 0) = .string s := hb 0 (base_of (by kernel_rfl))
      exact does_value (v := .string s) (w' := W) (by simp only [execOp, h0]; simp [go_sem]) ⟨rfl, hC, Nat.le_refl _, fun _ _ _ h _ => h⟩
    · intro A W hC hg hb
      have h9 : A.eval (.tmp 9) = .string s := hg 0 9 (by decide) rfl (by simp [Op.operands, Call.operands]) (by kernel_rfl) rfl
      simp [go_sem] at h9
      refine does_enter (f := 35) (args := #[.string s, .int .i64 0]) (w' := W) (by simp [go_sem, h9]) ?_
      refine (D0.out W).mono ?_
      rintro e w3 ⟨rfl, b3⟩
      exact ⟨_, rfl, rfl, below_via hC b3, b3.size, fun _ _ _ h _ => h.on b3 h.lt⟩
    · intro A W hC hg hb
      have h10 : A.eval (.tmp 10) = .int .u16 N0 := hg 1 10 (by decide) rfl (by simp [Op.operands]) (by kernel_rfl) rfl
      exact does_value (v := .int .i64 N0) (w' := W) (by simp only [execOp, h10]; simp [go_sem, hnw0]) ⟨rfl, hC, Nat.le_refl _, fun _ _ _ h _ => h⟩
    · intro A W hC hg hb
      have h0 : A.eval (.tmp 0) = .string s := hb 0 (base_of (by kernel_rfl))
      exact does_value (v := .string s) (w' := W) (by simp only [execOp, h0]; simp [go_sem]) ⟨rfl, hC, Nat.le_refl _, fun _ _ _ h _ => h⟩
    · intro A W hC hg hb
      have h12 : A.eval (.tmp 12) = .string s := hg 3 12 (by decide) rfl (by simp [Op.operands, Call.operands]) (by kernel_rfl) rfl
      simp [go_sem] at h12
      refine does_enter (f := 35) (args := #[.string s, .int .i64 2]) (w' := W) (by simp [go_sem, h12]) ?_
      refine (D2.out W).mono ?_
      rintro e w3 ⟨rfl, b3⟩
      exact ⟨_, rfl, rfl, below_via hC b3, b3.size, fun _ _ _ h _ => h.on b3 h.lt⟩
    · intro A W hC hg hb
      have h13 : A.eval (.tmp 13) = .int .u16 N1 := hg 4 13 (by decide) rfl (by simp [Op.operands]) (by kernel_rfl) rfl
      exact does_value (v := .int .i64 N1) (w' := W) (by simp only [execOp, h13]; simp [go_sem, hnw1]) ⟨rfl, hC, Nat.le_refl _, fun _ _ _ h _ => h⟩
    · intro A W hC hg hb
      have h0 : A.eval (.tmp 0) = .string s := hb 0 (base_of (by kernel_rfl))
      exact does_value (v := .string s) (w' := W) (by simp only [execOp, h0]; simp [go_sem]) ⟨rfl, hC, Nat.le_refl _, fun _ _ _ h _ => h⟩
    · intro A W hC hg hb
      have h15 : A.eval (.tmp 15) = .string s := hg 6 15 (by decide) rfl (by simp [Op.operands]) (by kernel_rfl) rfl
      exact does_value (v := .int .u8 x4) (w' := W) (by simp only [execOp, h15]; simp [go_sem, i4, hx4]) ⟨rfl, hC, Nat.le_refl _, fun _ _ _ h _ => h⟩
    · intro A W hC hg hb
      have h16 : A.eval (.tmp 16) = .int .u8 x4 := hg 7 16 (by decide) rfl (by simp [Op.operands]) (by kernel_rfl) rfl
      exact does_value (v := .int .i64 x4) (w' := W) (by simp only [execOp, h16]; simp [go_sem, hw4]) ⟨rfl, hC, Nat.le_refl _, fun _ _ _ h _ => h⟩
    · intro A W hC hg hb
      have h0 : A.eval (.tmp 0) = .string s := hb 0 (base_of (by kernel_rfl))
      exact does_value (v := .string s) (w' := W) (by simp only [execOp, h0]; simp [go_sem]) ⟨rfl, hC, Nat.le_refl _, fun _ _ _ h _ => h⟩
    · intro A W hC hg hb
      have h18 : A.eval (.tmp 18) = .string s := hg 9 18 (by decide) rfl (by simp [Op.operands]) (by kernel_rfl) rfl
      exact does_value (v := .string D) (w' := W) (by simp only [execOp, h18]; simp [go_sem, q5]) ⟨rfl, hC, Nat.le_refl _, fun _ _ _ h _ => h⟩
    · intro A W hC hg hb
      have h11 : A.eval (.tmp 11) = .int .i64 N0 := hg 2 11 (by decide) rfl (by simp [Op.operands]) (by kernel_rfl) rfl
      have h14 : A.eval (.tmp 14) = .int .i64 N1 := hg 5 14 (by decide) rfl (by simp [Op.operands]) (by kernel_rfl) rfl
      have h17 : A.eval (.tmp 17) = .int .i64 x4 := hg 8 17 (by decide) rfl (by simp [Op.operands]) (by kernel_rfl) rfl
      have h19 : A.eval (.tmp 19) = .string D := hg 10 19 (by decide) rfl (by simp [Op.operands]) (by kernel_rfl) rfl
      simp [go_sem] at h11 h14 h17 h19
      exact does_value (v := .agg #[.int .i64 N0, .int .i64 N1, .int .i64 x4, .string D]) (w' := W) (by simp [execOp, go_sem, h11, h14, h17, h19]) ⟨rfl, hC, Nat.le_refl _, fun _ _ _ h _ => h⟩
    · intro A W hC hg hb
      have hbm := below_more (Below.refl W.heap.size W) (.cells #[.int .i64 0, .int .i64 0, .int .i64 0, .string ⟨#[]⟩] 30)
      exact does_value (v := .pointer (some ⟨W.heap.size, 0, none⟩)) (w' := W.alloc (.cells #[.int .i64 0, .int .i64 0, .int .i64 0, .string ⟨#[]⟩] 30)) (by simp [execOp, go_sem]) ⟨⟨_, rfl, hC.size, heap_alloc_new W _⟩, below_more hC _, hbm.size, fun _ _ _ h _ => h.on hbm h.lt⟩
    · intro A W hC hg hb
      have g12 := hg 12 4 (by decide) rfl (by simp [Op.operands]) (by kernel_rfl) rfl
      have h20 : A.eval (.tmp 20) = .agg #[.int .i64 N0, .int .i64 N1, .int .i64 x4, .string D] := hg 11 20 (by decide) rfl (by simp [Op.operands]) (by kernel_rfl) rfl
      obtain ⟨X, h4, hlo, hX⟩ := g12
      have c0 := hX.cell (j := 0) rfl
      have c1 := hX.cell (j := 1) rfl
      have c2 := hX.cell (j := 2) rfl
      have c3 := hX.cell (j := 3) rfl
      have f0 := hX.thaw 0
      have f1 := hX.thaw 1
      have f2 := hX.thaw 2
      have f3 := hX.thaw 3
      have hX6 : BlockIs ((((W.setCell ⟨X, 0, none⟩ (.int .i64 N0)).setCell ⟨X, 1, none⟩ (.int .i64 N1)).setCell ⟨X, 2, none⟩ (.int .i64 x4)).setCell ⟨X, 3, none⟩ (.string D)) X 30 [.int .i64 N0, .int .i64 N1, .int .i64 x4, .string D] := ((((hX).set 0 (.int .i64 N0)).set 1 (.int .i64 N1)).set 2 (.int .i64 x4)).set 3 (.string D)
      refine does_skip (w' := ((((W.setCell ⟨X, 0, none⟩ (.int .i64 N0)).setCell ⟨X, 1, none⟩ (.int .i64 N1)).setCell ⟨X, 2, none⟩ (.int .i64 x4)).setCell ⟨X, 3, none⟩ (.string D))) (by simp only [execOp, h4, h20]; simp [go_sem, c0, c1, c2, c3, f0, f1, f2, f3]) ⟨⟨X, h4, hlo, hX6⟩, ((((hC).setCell hlo _).setCell hlo _).setCell hlo _).setCell hlo _, by simp [World.size_setCell], fun q ty cs hq hne => ?_⟩
      have hqX : X ≠ q := by intro e; subst e; exact hne rfl (block_one hq hX).1
      exact ((((hq).far hqX _).far hqX _).far hqX _).far hqX _
  intro vs w5 hC hg
  obtain ⟨X, hX4, hlo, hbl⟩ := hg 13 (by decide) (fun k => by simp)
  change vs 12 = _ at hX4
  clear hg
  have CH5 := hid hbl
  have X5 := hid (X0.out.on hC X0.out.lt)
  have B5 := hid (below_via B0.out hC)
  have HLO := hid (show w.heap.size < X by have := X0.out.lt; omega)
  have d0 := hbl.cell (j := 0) rfl
  have d1 := hbl.cell (j := 1) rfl
  have d2 := hbl.cell (j := 2) rfl
  have d3 := hbl.cell (j := 3) rfl
  change Exit.then _ _ _ (laidBy _ vs _ 14 _) w5
  simp only [laidBy, if_true, dstAt, List.getElem?_toArray, List.getElem?_cons_succ, List.getElem?_cons_zero, Option.bind_some]
  simp only [Act.put, List.setIfInBounds_toArray, List.set_cons_succ, List.set_cons_zero]
  rw [hX4]
  clear hX4 hC hbl q5 BLN p0 p1 p2 p3 pf0 pf1 pf2 pf3
  have cc := implSegOk_any (segOf s) (by rw [HO.out]; have := HDs.out; show D.size ≤ _; omega) w5
  have HE : Hid (SegIn s ↔ segOk (segOf s) = true) := ⟨fun h => h.2, fun h => ⟨by omega, h⟩⟩
  obtain ⟨ok, hok⟩ : ∃ ok, segOk (segOf s) = ok := ⟨_, rfl⟩
  rw [hok] at cc HE
  rw [HO.out] at cc
  dsimp only at cc
  have CC := hid cc
  clear cc hok
  go_wp2_with fail
  refine Calls.mono CC.out ?_
  rintro e w6 ⟨rfl, b6⟩
  have X6 := hid (X5.out.on b6 X5.out.lt)
  have C6 := hid (CH5.out.on b6 CH5.out.lt)
  have B6 := hid (below_via B5.out b6)
  clear b6 CC X5 CH5 B5 d0 d1 d2 d3
  have p0 := X6.out.cell (j := 0) rfl
  have p1 := X6.out.cell (j := 1) rfl
  have p2 := X6.out.cell (j := 2) rfl
  have p3 := X6.out.cell (j := 3) rfl
  have pf0 := X6.out.thaw 0
  have pf1 := X6.out.thaw 1
  have pf2 := X6.out.thaw 2
  have pf3 := X6.out.thaw 3
  have BLN := hid (((((B6.out).setCell (p := ⟨w.heap.size, 0, none⟩) (Nat.le_refl _) (.int .i64 0)).setCell (p := ⟨w.heap.size, 1, none⟩) (Nat.le_refl _) (.int .i64 0)).setCell (p := ⟨w.heap.size, 2, none⟩) (Nat.le_refl _) (.int .i64 0)).setCell (p := ⟨w.heap.size, 3, none⟩) (Nat.le_refl _) (.string ⟨#[]⟩))
  cases ok with
  | false =>
    have HN : Hid (¬ SegIn s) := fun h => by cases HE.out.1 h
    go_wp2
    refine bodyPost_ret (v := .tuple #[.agg #[.int .i64 0, .int .i64 0, .int .i64 0, .string ⟨#[]⟩], .bool false]) (by simp [results, Try.results17, go_sem, p0, p1, p2, p3]) rfl ?_
    exact ⟨Or.inr ⟨HN.out, rfl⟩, BLN.out⟩
  | true =>
    have HY : Hid (SegIn s) := HE.out.2 rfl
    have d0 := C6.out.cell (j := 0) rfl
    have d1 := C6.out.cell (j := 1) rfl
    have d2 := C6.out.cell (j := 2) rfl
    have d3 := C6.out.cell (j := 3) rfl
    go_wp2_with fail
    refine Calls.mono (clone_any D (by have := HDs.out; omega) _) ?_
    rintro e w7 ⟨rfl, b7⟩
    have X7 := hid (X6.out.on b7 X6.out.lt)
    have C7 := hid (C6.out.on b7 C6.out.lt)
    have B7 := hid (below_via B6.out b7)
    clear b7 X6 C6 B6 BLN d0 d1 d2 d3 p0 p1 p2 p3 pf0 pf1 pf2 pf3
    have y3 := C7.out.cell (j := 3) rfl
    have yf3 := C7.out.thaw 3
    have C8 : Hid (BlockIs (w7.setCell ⟨X, 3, none⟩ (.string D)) X 30 [.int .i64 N0, .int .i64 N1, .int .i64 x4, .string D]) := C7.out.set 3 (.string D)
    have X8 := hid (X7.out.far (b := X) (j := 3) (by have := HLO.out; omega) (.string D))
    have B8 := hid (B7.out.setCell (p := ⟨X, 3, none⟩) (show w.heap.size ≤ X by have := HLO.out; omega) (.string D))
    have p0 := X8.out.cell (j := 0) rfl
    have p1 := X8.out.cell (j := 1) rfl
    have p2 := X8.out.cell (j := 2) rfl
    have p3 := X8.out.cell (j := 3) rfl
    have pf0 := X8.out.thaw 0
    have pf1 := X8.out.thaw 1
    have pf2 := X8.out.thaw 2
    have pf3 := X8.out.thaw 3
    have d0 := C8.out.cell (j := 0) rfl
    have d1 := C8.out.cell (j := 1) rfl
    have d2 := C8.out.cell (j := 2) rfl
    have d3 := C8.out.cell (j := 3) rfl
    have BLY := hid (((((B8.out).setCell (p := ⟨w.heap.size, 0, none⟩) (Nat.le_refl _) (.int .i64 N0)).setCell (p := ⟨w.heap.size, 1, none⟩) (Nat.le_refl _) (.int .i64 N1)).setCell (p := ⟨w.heap.size, 2, none⟩) (Nat.le_refl _) (.int .i64 x4)).setCell (p := ⟨w.heap.size, 3, none⟩) (Nat.le_refl _) (.string D))
    go_wp2
    refine bodyPost_ret (v := .tuple #[.agg #[.int .i64 N0, .int .i64 N1, .int .i64 x4, .string D], .bool true]) (by simp [results, Try.results17, go_sem, p0, p1, p2, p3]) rfl ?_
    refine ⟨Or.inl ⟨HY.out, ?_⟩, BLY.out⟩
    rw [HO.out]
end Go.Proofs.Ytgnoojbbicbklaa
