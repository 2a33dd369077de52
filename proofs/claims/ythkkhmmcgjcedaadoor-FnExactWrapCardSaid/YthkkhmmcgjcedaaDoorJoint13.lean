/-
  The walk of spec.l11Head: the six bytes of a datagram's head.
-/
import Derived.Test.YthkkhmmcgjcedaaDoorJoint8
import Derived.Test.YthkkhmmcgjcedaaDoorJoint9
import Derived.Laws.Concat
namespace Go.Proofs.YthkkhmmcgjcedaaDoor
open Go.RowKit

set_option maxRecDepth 1000000 in
set_option maxHeartbeats 4000000 in
theorem l11Head_nat (a b c p : Nat) (m : Bool) (s : ByteArray) (ha : a ≤ 99) (hb : b ≤ 99) (hc : c ≤ 65535) (hp : p ≤ 160) (w : World) :
    Calls Tryd.prog 24 #[.agg #[.int .i64 (a : Int), .int .i64 (b : Int), .int .i64 (c : Int), .int .i64 (p : Int), .bool m, .string s]] w fun e w' => e = .returned (.string ⟨(dHead ⟨a, b, c, p, m, s⟩).toArray⟩) ∧ Below w.heap.size w w' := by
  have hx0 : BlockIs (w.alloc (.cells #[.int .i64 (a : Int), .int .i64 (b : Int), .int .i64 (c : Int), .int .i64 (p : Int), .bool m, .string s] 36)) w.heap.size 36 [.int .i64 (a : Int), .int .i64 (b : Int), .int .i64 (c : Int), .int .i64 (p : Int), .bool m, .string s] := heap_alloc_new w _
  have B0 := hid (below_more (Below.refl w.heap.size w) (.cells #[.int .i64 (a : Int), .int .i64 (b : Int), .int .i64 (c : Int), .int .i64 (p : Int), .bool m, .string s] 36))
  obtain ⟨W0, hW0⟩ : ∃ W, w.alloc (.cells #[.int .i64 (a : Int), .int .i64 (b : Int), .int .i64 (c : Int), .int .i64 (p : Int), .bool m, .string s] 36) = W := ⟨_, rfl⟩
  rw [hW0] at hx0 B0
  have X0 := hid hx0
  have z4 := hx0.cell (j := 4) rfl
  clear hx0
  obtain ⟨q, hq⟩ : ∃ q, p / 8 = q := ⟨_, rfl⟩
  have hq2 : q ≤ 20 := by omega
  have hdq : (p : Int).tdiv 8 = (q : Int) := by rw [Int.tdiv_eq_ediv_of_nonneg (by omega)]; omega
  have hwqi : IntKind.i64.wrap (q : Int) = (q : Int) := by rw [IntKind.wrap_i64]; omega
  have hwa : IntKind.u8.wrap (a : Int) = (a : Int) := by rw [IntKind.wrap_u8]; omega
  have hwb : IntKind.u8.wrap (b : Int) = (b : Int) := by rw [IntKind.wrap_u8]; omega
  have hwq : IntKind.u8.wrap (q : Int) = (q : Int) := by rw [IntKind.wrap_u8]; omega
  obtain ⟨H1, e1⟩ : ∃ H, two2 a b = H := ⟨_, rfl⟩
  obtain ⟨H2, e2⟩ : ∃ H : ByteArray, ⟨(twoB c).toArray⟩ = H := ⟨_, rfl⟩
  obtain ⟨mm, hmm⟩ : ∃ x : Nat, (if m then 1 else 0) = x := ⟨_, rfl⟩
  have hmm2 : mm ≤ 1 := by rw [← hmm]; split <;> omega
  obtain ⟨H3, e3⟩ : ∃ H, two2 q mm = H := ⟨_, rfl⟩
  have hz1 : H1.size = 2 := by rw [← e1]; rfl
  have hz2 : H2.size = 2 := by rw [← e2]; rfl
  have hz3 : H3.size = 2 := by rw [← e3]; rfl
  obtain ⟨H12, e12⟩ : ∃ H, H1 ++ H2 = H := ⟨_, rfl⟩
  have hz12 : H12.size = 4 := by rw [← e12, ByteArray.size_append]; omega
  obtain ⟨H, eH⟩ : ∃ H, H12 ++ H3 = H := ⟨_, rfl⟩
  have hs1 : ∀ w, (Op.stringOp .add H1 H2).run Tryd.prog w = .ok (.string H12) w := fun w => by rw [run_string_add_sum w _ _ (by omega), e12]
  have hs2 : ∀ w, (Op.stringOp .add H12 H3).run Tryd.prog w = .ok (.string H) w := fun w => by rw [run_string_add_sum w _ _ (by omega), eH]
  have HR : Hid ((⟨(dHead ⟨a, b, c, p, m, s⟩).toArray⟩ : ByteArray) = H) := by
    show _ = _
    apply ByteArray.ext
    apply Array.toList_inj.1
    rw [← eH, ← e12, ← e1, ← e2, ← e3, ByteArray.data_append, ByteArray.data_append, Array.toList_append, Array.toList_append]
    simp only [dHead, Int.toNat_natCast, hq, hmm]
    rfl
  have H1e := hid e1
  have H2e := hid e2
  have H3e := hid e3
  have HZ := hid (And.intro hz1 (And.intro hz2 hz3))
  clear e1 e2 e3 e12 eH hz1 hz2 hz3 hz12 hq
  go_enter Tryd.func24, Tryd.ntmps24
  cases m with
  | false =>
    obtain rfl : 0 = mm := hmm
    go_wp2
    refine wp_region_each (N := 26) (by kernel_rfl) (by kernel_rfl) rfl (by kernel_rfl) (fun W => Below W0.heap.size W0 W) (fun j v _ W => match j with | 0 => v = .pointer (some ⟨w.heap.size, 0, none⟩) | 1 => v = .int .i64 (a : Int) | 2 => v = .int .u8 (a : Int) | 3 => v = .pointer (some ⟨w.heap.size, 1, none⟩) | 4 => v = .int .i64 (b : Int) | 5 => v = .int .u8 (b : Int) | 6 => ∃ g, v = .slice (some ⟨g, 0, none⟩) 2 2 ∧ BlockIs W g 5 [.int .u8 (a : Int), .int .u8 (b : Int)] | 7 => v = .string H1 | 8 => v = .pointer (some ⟨w.heap.size, 2, none⟩) | 9 => v = .int .i64 (c : Int) | 10 => v = .string H2 | 11 => v = .string H12 | 12 => v = .pointer (some ⟨w.heap.size, 3, none⟩) | 13 => v = .int .i64 (p : Int) | 14 => v = .int .i64 (q : Int) | 15 => v = .int .u8 (q : Int) | 16 => v = .int .u8 (0 : Int) | 17 => ∃ g, v = .slice (some ⟨g, 0, none⟩) 2 2 ∧ BlockIs W g 5 [.int .u8 (q : Int), .int .u8 (0 : Int)] | 18 => v = .string H3 | 19 => v = .string H | 20 => v = .string H | _ => True) (fun i => i) (fun _ _ => false) (fun _ x y => Below x.heap.size x y) (fun _ => 0) (by kernel_rfl) (fun _ _ => rfl) ?_ (below_drewN (Below.refl _ _) 1) ?_ ?_
    · intro i j v u x y hij hdd hwt hxy hg
      match j, hg with
      | 0, hg => exact hg
      | 1, hg => exact hg
      | 2, hg => exact hg
      | 3, hg => exact hg
      | 4, hg => exact hg
      | 5, hg => exact hg
      | 6, hg =>
        obtain ⟨g, e1, e2⟩ := hg
        exact ⟨g, e1, e2.on hxy e2.lt⟩
      | 7, hg => exact hg
      | 8, hg => exact hg
      | 9, hg => exact hg
      | 10, hg => exact hg
      | 11, hg => exact hg
      | 12, hg => exact hg
      | 13, hg => exact hg
      | 14, hg => exact hg
      | 15, hg => exact hg
      | 16, hg => exact hg
      | 17, hg =>
        obtain ⟨g, e1, e2⟩ := hg
        exact ⟨g, e1, e2.on hxy e2.lt⟩
      | 18, hg => exact hg
      | 19, hg => exact hg
      | 20, hg => exact hg
      | n + 21, _ => exact trivial
    · refine ⟨?_, ?_, ?_, ?_, ?_, ?_, ?_, ?_, ?_, ?_, ?_, ?_, ?_, ?_, ?_, ?_, ?_, ?_, ?_, ?_, ?_, trivial⟩
      · intro A W hC hg hb
        have h1 : A.eval (.tmp 1) = .pointer (some ⟨w.heap.size, 0, none⟩) := hb 1 (base_of (by kernel_rfl))
        exact does_value (v := .pointer (some ⟨w.heap.size, 0, none⟩)) (w' := W) (by simp only [execOp, h1]; simp [go_sem]) ⟨rfl, hC, Below.refl _ _⟩
      · intro A W hC hg hb
        have h6 : A.eval (.tmp 6) = .pointer (some ⟨w.heap.size, 0, none⟩) := hg 0 6 (by decide) rfl (by simp [Op.operands]) (by kernel_rfl) rfl
        have hc := (X0.out.on hC X0.out.lt).cell (j := 0) rfl
        exact does_value (v := .int .i64 (a : Int)) (w' := W) (by simp only [execOp, h6]; simp [go_sem, hc]) ⟨rfl, hC, Below.refl _ _⟩
      · intro A W hC hg hb
        have h7 : A.eval (.tmp 7) = .int .i64 (a : Int) := hg 1 7 (by decide) rfl (by simp [Op.operands]) (by kernel_rfl) rfl
        exact does_value (v := .int .u8 (a : Int)) (w' := W) (by simp only [execOp, h7]; simp [go_sem, hwa]) ⟨rfl, hC, Below.refl _ _⟩
      · intro A W hC hg hb
        have h1 : A.eval (.tmp 1) = .pointer (some ⟨w.heap.size, 0, none⟩) := hb 1 (base_of (by kernel_rfl))
        exact does_value (v := .pointer (some ⟨w.heap.size, 1, none⟩)) (w' := W) (by simp only [execOp, h1]; simp [go_sem]) ⟨rfl, hC, Below.refl _ _⟩
      · intro A W hC hg hb
        have h9 : A.eval (.tmp 9) = .pointer (some ⟨w.heap.size, 1, none⟩) := hg 3 9 (by decide) rfl (by simp [Op.operands]) (by kernel_rfl) rfl
        have hc := (X0.out.on hC X0.out.lt).cell (j := 1) rfl
        exact does_value (v := .int .i64 (b : Int)) (w' := W) (by simp only [execOp, h9]; simp [go_sem, hc]) ⟨rfl, hC, Below.refl _ _⟩
      · intro A W hC hg hb
        have h10 : A.eval (.tmp 10) = .int .i64 (b : Int) := hg 4 10 (by decide) rfl (by simp [Op.operands]) (by kernel_rfl) rfl
        exact does_value (v := .int .u8 (b : Int)) (w' := W) (by simp only [execOp, h10]; simp [go_sem, hwb]) ⟨rfl, hC, Below.refl _ _⟩
      · intro A W hC hg hb
        have h8 : A.eval (.tmp 8) = .int .u8 (a : Int) := hg 2 8 (by decide) rfl (by simp [Op.operands]) (by kernel_rfl) rfl
        have h11 : A.eval (.tmp 11) = .int .u8 (b : Int) := hg 5 11 (by decide) rfl (by simp [Op.operands]) (by kernel_rfl) rfl
        have hb' := below_more (Below.refl W.heap.size W) (.cells #[.int .u8 (a : Int), .int .u8 (b : Int)] 5)
        simp [go_sem] at h8 h11
        exact does_value (v := .slice (some ⟨W.heap.size, 0, none⟩) 2 2) (w' := W.alloc (.cells #[.int .u8 (a : Int), .int .u8 (b : Int)] 5)) (by simp [execOp, go_sem, h8, h11]) ⟨⟨_, rfl, heap_alloc_new W _⟩, below_more hC _, hb'⟩
      · intro A W hC hg hb
        have g6 := hg 6 12 (by decide) rfl (by simp [Op.operands]) (by kernel_rfl) rfl
        obtain ⟨g, h12, hbl⟩ := g6
        have hcv := two2_text (a := a) (b := b) (by omega) (by omega) hbl
        rw [H1e.out] at hcv
        exact does_value (v := .string H1) (w' := W) (by simp only [execOp, h12]; simp [go_sem, hcv]) ⟨rfl, hC, Below.refl _ _⟩
      · intro A W hC hg hb
        have h1 : A.eval (.tmp 1) = .pointer (some ⟨w.heap.size, 0, none⟩) := hb 1 (base_of (by kernel_rfl))
        exact does_value (v := .pointer (some ⟨w.heap.size, 2, none⟩)) (w' := W) (by simp only [execOp, h1]; simp [go_sem]) ⟨rfl, hC, Below.refl _ _⟩
      · intro A W hC hg hb
        have h14 : A.eval (.tmp 14) = .pointer (some ⟨w.heap.size, 2, none⟩) := hg 8 14 (by decide) rfl (by simp [Op.operands]) (by kernel_rfl) rfl
        have hc := (X0.out.on hC X0.out.lt).cell (j := 2) rfl
        exact does_value (v := .int .i64 (c : Int)) (w' := W) (by simp only [execOp, h14]; simp [go_sem, hc]) ⟨rfl, hC, Below.refl _ _⟩
      · intro A W hC hg hb
        have h15 : A.eval (.tmp 15) = .int .i64 (c : Int) := hg 9 15 (by decide) rfl (by simp [Op.operands, Call.operands]) (by kernel_rfl) rfl
        simp [go_sem] at h15
        refine does_enter (f := 21) (args := #[.int .i64 (c : Int)]) (w' := W) (by simp [go_sem, h15]) ?_
        have ct := l11Two_any c (by omega) W
        rw [H2e.out] at ct
        refine Calls.mono ct ?_
        rintro e W' ⟨rfl, hb'⟩
        exact ⟨_, rfl, rfl, below_via hC hb', hb'⟩
      · intro A W hC hg hb
        have h13 : A.eval (.tmp 13) = .string H1 := hg 7 13 (by decide) rfl (by simp [Op.operands]) (by kernel_rfl) rfl
        have h16 : A.eval (.tmp 16) = .string H2 := hg 10 16 (by decide) rfl (by simp [Op.operands]) (by kernel_rfl) rfl
        exact does_value (v := .string H12) (w' := W) (by simp only [execOp, h13, h16]; simp [go_sem, hs1]) ⟨rfl, hC, Below.refl _ _⟩
      · intro A W hC hg hb
        have h1 : A.eval (.tmp 1) = .pointer (some ⟨w.heap.size, 0, none⟩) := hb 1 (base_of (by kernel_rfl))
        exact does_value (v := .pointer (some ⟨w.heap.size, 3, none⟩)) (w' := W) (by simp only [execOp, h1]; simp [go_sem]) ⟨rfl, hC, Below.refl _ _⟩
      · intro A W hC hg hb
        have h18 : A.eval (.tmp 18) = .pointer (some ⟨w.heap.size, 3, none⟩) := hg 12 18 (by decide) rfl (by simp [Op.operands]) (by kernel_rfl) rfl
        have hc := (X0.out.on hC X0.out.lt).cell (j := 3) rfl
        exact does_value (v := .int .i64 (p : Int)) (w' := W) (by simp only [execOp, h18]; simp [go_sem, hc]) ⟨rfl, hC, Below.refl _ _⟩
      · intro A W hC hg hb
        have h19 : A.eval (.tmp 19) = .int .i64 (p : Int) := hg 13 19 (by decide) rfl (by simp [Op.operands]) (by kernel_rfl) rfl
        exact does_value (v := .int .i64 (q : Int)) (w' := W) (by simp only [execOp, h19]; simp [go_sem, hdq, hwqi]) ⟨rfl, hC, Below.refl _ _⟩
      · intro A W hC hg hb
        have h20 : A.eval (.tmp 20) = .int .i64 (q : Int) := hg 14 20 (by decide) rfl (by simp [Op.operands]) (by kernel_rfl) rfl
        exact does_value (v := .int .u8 (q : Int)) (w' := W) (by simp only [execOp, h20]; simp [go_sem, hwq]) ⟨rfl, hC, Below.refl _ _⟩
      · intro A W hC hg hb
        have h3 : A.eval (.tmp 3) = .int .u8 (0 : Int) := hb 3 (base_of (by kernel_rfl))
        exact does_value (v := .int .u8 (0 : Int)) (w' := W) (by simp only [execOp, h3]; simp [go_sem]) ⟨rfl, hC, Below.refl _ _⟩
      · intro A W hC hg hb
        have h21 : A.eval (.tmp 21) = .int .u8 (q : Int) := hg 15 21 (by decide) rfl (by simp [Op.operands]) (by kernel_rfl) rfl
        have h22 : A.eval (.tmp 22) = .int .u8 (0 : Int) := hg 16 22 (by decide) rfl (by simp [Op.operands]) (by kernel_rfl) rfl
        have hb' := below_more (Below.refl W.heap.size W) (.cells #[.int .u8 (q : Int), .int .u8 (0 : Int)] 5)
        simp [go_sem] at h21 h22
        exact does_value (v := .slice (some ⟨W.heap.size, 0, none⟩) 2 2) (w' := W.alloc (.cells #[.int .u8 (q : Int), .int .u8 (0 : Int)] 5)) (by simp [execOp, go_sem, h21, h22]) ⟨⟨_, rfl, heap_alloc_new W _⟩, below_more hC _, hb'⟩
      · intro A W hC hg hb
        have g17 := hg 17 23 (by decide) rfl (by simp [Op.operands]) (by kernel_rfl) rfl
        obtain ⟨g, h23, hbl⟩ := g17
        have hcv := two2_text (a := q) (b := 0) (by omega) (by omega) hbl
        rw [H3e.out] at hcv
        exact does_value (v := .string H3) (w' := W) (by simp only [execOp, h23]; simp [go_sem, hcv]) ⟨rfl, hC, Below.refl _ _⟩
      · intro A W hC hg hb
        have h17 : A.eval (.tmp 17) = .string H12 := hg 11 17 (by decide) rfl (by simp [Op.operands]) (by kernel_rfl) rfl
        have h24 : A.eval (.tmp 24) = .string H3 := hg 18 24 (by decide) rfl (by simp [Op.operands]) (by kernel_rfl) rfl
        exact does_value (v := .string H) (w' := W) (by simp only [execOp, h17, h24]; simp [go_sem, hs2]) ⟨rfl, hC, Below.refl _ _⟩
      · intro A W hC hg hb
        have h25 : A.eval (.tmp 25) = .string H := hg 19 25 (by decide) rfl (by simp [Op.operands]) (by kernel_rfl) rfl
        exact does_value (v := .string H) (w' := W) (by simp only [execOp, h25]; simp [go_sem]) ⟨rfl, hC, Below.refl _ _⟩
    intro vs w4 hC hg
    have hg2 := hg 20 (by decide) (fun k => rfl)
    change vs 20 = _ at hg2
    have BL := hid (below_via B0.out hC)
    clear hg hC
    change Exit.then _ _ _ (laidBy _ vs _ 21 _) w4
    simp only [laidBy, if_true, dstAt, List.getElem?_toArray, List.getElem?_cons_succ, List.getElem?_cons_zero, Option.bind_some]
    simp only [Act.put, List.setIfInBounds_toArray, List.set_cons_succ, List.set_cons_zero]
    rw [hg2]
    clear hg2
    go_wp2
    go_ret
    exact ⟨by rw [HR.out]; rfl, BL.out⟩
  | true =>
    obtain rfl : 1 = mm := hmm
    go_wp2
    refine wp_region_each (N := 26) (by kernel_rfl) (by kernel_rfl) rfl (by kernel_rfl) (fun W => Below W0.heap.size W0 W) (fun j v _ W => match j with | 0 => v = .pointer (some ⟨w.heap.size, 0, none⟩) | 1 => v = .int .i64 (a : Int) | 2 => v = .int .u8 (a : Int) | 3 => v = .pointer (some ⟨w.heap.size, 1, none⟩) | 4 => v = .int .i64 (b : Int) | 5 => v = .int .u8 (b : Int) | 6 => ∃ g, v = .slice (some ⟨g, 0, none⟩) 2 2 ∧ BlockIs W g 5 [.int .u8 (a : Int), .int .u8 (b : Int)] | 7 => v = .string H1 | 8 => v = .pointer (some ⟨w.heap.size, 2, none⟩) | 9 => v = .int .i64 (c : Int) | 10 => v = .string H2 | 11 => v = .string H12 | 12 => v = .pointer (some ⟨w.heap.size, 3, none⟩) | 13 => v = .int .i64 (p : Int) | 14 => v = .int .i64 (q : Int) | 15 => v = .int .u8 (q : Int) | 16 => v = .int .u8 (1 : Int) | 17 => ∃ g, v = .slice (some ⟨g, 0, none⟩) 2 2 ∧ BlockIs W g 5 [.int .u8 (q : Int), .int .u8 (1 : Int)] | 18 => v = .string H3 | 19 => v = .string H | 20 => v = .string H | _ => True) (fun i => i) (fun _ _ => false) (fun _ x y => Below x.heap.size x y) (fun _ => 0) (by kernel_rfl) (fun _ _ => rfl) ?_ (below_drewN (Below.refl _ _) 1) ?_ ?_
    · intro i j v u x y hij hdd hwt hxy hg
      match j, hg with
      | 0, hg => exact hg
      | 1, hg => exact hg
      | 2, hg => exact hg
      | 3, hg => exact hg
      | 4, hg => exact hg
      | 5, hg => exact hg
      | 6, hg =>
        obtain ⟨g, e1, e2⟩ := hg
        exact ⟨g, e1, e2.on hxy e2.lt⟩
      | 7, hg => exact hg
      | 8, hg => exact hg
      | 9, hg => exact hg
      | 10, hg => exact hg
      | 11, hg => exact hg
      | 12, hg => exact hg
      | 13, hg => exact hg
      | 14, hg => exact hg
      | 15, hg => exact hg
      | 16, hg => exact hg
      | 17, hg =>
        obtain ⟨g, e1, e2⟩ := hg
        exact ⟨g, e1, e2.on hxy e2.lt⟩
      | 18, hg => exact hg
      | 19, hg => exact hg
      | 20, hg => exact hg
      | n + 21, _ => exact trivial
    · refine ⟨?_, ?_, ?_, ?_, ?_, ?_, ?_, ?_, ?_, ?_, ?_, ?_, ?_, ?_, ?_, ?_, ?_, ?_, ?_, ?_, ?_, trivial⟩
      · intro A W hC hg hb
        have h1 : A.eval (.tmp 1) = .pointer (some ⟨w.heap.size, 0, none⟩) := hb 1 (base_of (by kernel_rfl))
        exact does_value (v := .pointer (some ⟨w.heap.size, 0, none⟩)) (w' := W) (by simp only [execOp, h1]; simp [go_sem]) ⟨rfl, hC, Below.refl _ _⟩
      · intro A W hC hg hb
        have h6 : A.eval (.tmp 6) = .pointer (some ⟨w.heap.size, 0, none⟩) := hg 0 6 (by decide) rfl (by simp [Op.operands]) (by kernel_rfl) rfl
        have hc := (X0.out.on hC X0.out.lt).cell (j := 0) rfl
        exact does_value (v := .int .i64 (a : Int)) (w' := W) (by simp only [execOp, h6]; simp [go_sem, hc]) ⟨rfl, hC, Below.refl _ _⟩
      · intro A W hC hg hb
        have h7 : A.eval (.tmp 7) = .int .i64 (a : Int) := hg 1 7 (by decide) rfl (by simp [Op.operands]) (by kernel_rfl) rfl
        exact does_value (v := .int .u8 (a : Int)) (w' := W) (by simp only [execOp, h7]; simp [go_sem, hwa]) ⟨rfl, hC, Below.refl _ _⟩
      · intro A W hC hg hb
        have h1 : A.eval (.tmp 1) = .pointer (some ⟨w.heap.size, 0, none⟩) := hb 1 (base_of (by kernel_rfl))
        exact does_value (v := .pointer (some ⟨w.heap.size, 1, none⟩)) (w' := W) (by simp only [execOp, h1]; simp [go_sem]) ⟨rfl, hC, Below.refl _ _⟩
      · intro A W hC hg hb
        have h9 : A.eval (.tmp 9) = .pointer (some ⟨w.heap.size, 1, none⟩) := hg 3 9 (by decide) rfl (by simp [Op.operands]) (by kernel_rfl) rfl
        have hc := (X0.out.on hC X0.out.lt).cell (j := 1) rfl
        exact does_value (v := .int .i64 (b : Int)) (w' := W) (by simp only [execOp, h9]; simp [go_sem, hc]) ⟨rfl, hC, Below.refl _ _⟩
      · intro A W hC hg hb
        have h10 : A.eval (.tmp 10) = .int .i64 (b : Int) := hg 4 10 (by decide) rfl (by simp [Op.operands]) (by kernel_rfl) rfl
        exact does_value (v := .int .u8 (b : Int)) (w' := W) (by simp only [execOp, h10]; simp [go_sem, hwb]) ⟨rfl, hC, Below.refl _ _⟩
      · intro A W hC hg hb
        have h8 : A.eval (.tmp 8) = .int .u8 (a : Int) := hg 2 8 (by decide) rfl (by simp [Op.operands]) (by kernel_rfl) rfl
        have h11 : A.eval (.tmp 11) = .int .u8 (b : Int) := hg 5 11 (by decide) rfl (by simp [Op.operands]) (by kernel_rfl) rfl
        have hb' := below_more (Below.refl W.heap.size W) (.cells #[.int .u8 (a : Int), .int .u8 (b : Int)] 5)
        simp [go_sem] at h8 h11
        exact does_value (v := .slice (some ⟨W.heap.size, 0, none⟩) 2 2) (w' := W.alloc (.cells #[.int .u8 (a : Int), .int .u8 (b : Int)] 5)) (by simp [execOp, go_sem, h8, h11]) ⟨⟨_, rfl, heap_alloc_new W _⟩, below_more hC _, hb'⟩
      · intro A W hC hg hb
        have g6 := hg 6 12 (by decide) rfl (by simp [Op.operands]) (by kernel_rfl) rfl
        obtain ⟨g, h12, hbl⟩ := g6
        have hcv := two2_text (a := a) (b := b) (by omega) (by omega) hbl
        rw [H1e.out] at hcv
        exact does_value (v := .string H1) (w' := W) (by simp only [execOp, h12]; simp [go_sem, hcv]) ⟨rfl, hC, Below.refl _ _⟩
      · intro A W hC hg hb
        have h1 : A.eval (.tmp 1) = .pointer (some ⟨w.heap.size, 0, none⟩) := hb 1 (base_of (by kernel_rfl))
        exact does_value (v := .pointer (some ⟨w.heap.size, 2, none⟩)) (w' := W) (by simp only [execOp, h1]; simp [go_sem]) ⟨rfl, hC, Below.refl _ _⟩
      · intro A W hC hg hb
        have h14 : A.eval (.tmp 14) = .pointer (some ⟨w.heap.size, 2, none⟩) := hg 8 14 (by decide) rfl (by simp [Op.operands]) (by kernel_rfl) rfl
        have hc := (X0.out.on hC X0.out.lt).cell (j := 2) rfl
        exact does_value (v := .int .i64 (c : Int)) (w' := W) (by simp only [execOp, h14]; simp [go_sem, hc]) ⟨rfl, hC, Below.refl _ _⟩
      · intro A W hC hg hb
        have h15 : A.eval (.tmp 15) = .int .i64 (c : Int) := hg 9 15 (by decide) rfl (by simp [Op.operands, Call.operands]) (by kernel_rfl) rfl
        simp [go_sem] at h15
        refine does_enter (f := 21) (args := #[.int .i64 (c : Int)]) (w' := W) (by simp [go_sem, h15]) ?_
        have ct := l11Two_any c (by omega) W
        rw [H2e.out] at ct
        refine Calls.mono ct ?_
        rintro e W' ⟨rfl, hb'⟩
        exact ⟨_, rfl, rfl, below_via hC hb', hb'⟩
      · intro A W hC hg hb
        have h13 : A.eval (.tmp 13) = .string H1 := hg 7 13 (by decide) rfl (by simp [Op.operands]) (by kernel_rfl) rfl
        have h16 : A.eval (.tmp 16) = .string H2 := hg 10 16 (by decide) rfl (by simp [Op.operands]) (by kernel_rfl) rfl
        exact does_value (v := .string H12) (w' := W) (by simp only [execOp, h13, h16]; simp [go_sem, hs1]) ⟨rfl, hC, Below.refl _ _⟩
      · intro A W hC hg hb
        have h1 : A.eval (.tmp 1) = .pointer (some ⟨w.heap.size, 0, none⟩) := hb 1 (base_of (by kernel_rfl))
        exact does_value (v := .pointer (some ⟨w.heap.size, 3, none⟩)) (w' := W) (by simp only [execOp, h1]; simp [go_sem]) ⟨rfl, hC, Below.refl _ _⟩
      · intro A W hC hg hb
        have h18 : A.eval (.tmp 18) = .pointer (some ⟨w.heap.size, 3, none⟩) := hg 12 18 (by decide) rfl (by simp [Op.operands]) (by kernel_rfl) rfl
        have hc := (X0.out.on hC X0.out.lt).cell (j := 3) rfl
        exact does_value (v := .int .i64 (p : Int)) (w' := W) (by simp only [execOp, h18]; simp [go_sem, hc]) ⟨rfl, hC, Below.refl _ _⟩
      · intro A W hC hg hb
        have h19 : A.eval (.tmp 19) = .int .i64 (p : Int) := hg 13 19 (by decide) rfl (by simp [Op.operands]) (by kernel_rfl) rfl
        exact does_value (v := .int .i64 (q : Int)) (w' := W) (by simp only [execOp, h19]; simp [go_sem, hdq, hwqi]) ⟨rfl, hC, Below.refl _ _⟩
      · intro A W hC hg hb
        have h20 : A.eval (.tmp 20) = .int .i64 (q : Int) := hg 14 20 (by decide) rfl (by simp [Op.operands]) (by kernel_rfl) rfl
        exact does_value (v := .int .u8 (q : Int)) (w' := W) (by simp only [execOp, h20]; simp [go_sem, hwq]) ⟨rfl, hC, Below.refl _ _⟩
      · intro A W hC hg hb
        have h3 : A.eval (.tmp 3) = .int .u8 (1 : Int) := hb 3 (base_of (by kernel_rfl))
        exact does_value (v := .int .u8 (1 : Int)) (w' := W) (by simp only [execOp, h3]; simp [go_sem]) ⟨rfl, hC, Below.refl _ _⟩
      · intro A W hC hg hb
        have h21 : A.eval (.tmp 21) = .int .u8 (q : Int) := hg 15 21 (by decide) rfl (by simp [Op.operands]) (by kernel_rfl) rfl
        have h22 : A.eval (.tmp 22) = .int .u8 (1 : Int) := hg 16 22 (by decide) rfl (by simp [Op.operands]) (by kernel_rfl) rfl
        have hb' := below_more (Below.refl W.heap.size W) (.cells #[.int .u8 (q : Int), .int .u8 (1 : Int)] 5)
        simp [go_sem] at h21 h22
        exact does_value (v := .slice (some ⟨W.heap.size, 0, none⟩) 2 2) (w' := W.alloc (.cells #[.int .u8 (q : Int), .int .u8 (1 : Int)] 5)) (by simp [execOp, go_sem, h21, h22]) ⟨⟨_, rfl, heap_alloc_new W _⟩, below_more hC _, hb'⟩
      · intro A W hC hg hb
        have g17 := hg 17 23 (by decide) rfl (by simp [Op.operands]) (by kernel_rfl) rfl
        obtain ⟨g, h23, hbl⟩ := g17
        have hcv := two2_text (a := q) (b := 1) (by omega) (by omega) hbl
        rw [H3e.out] at hcv
        exact does_value (v := .string H3) (w' := W) (by simp only [execOp, h23]; simp [go_sem, hcv]) ⟨rfl, hC, Below.refl _ _⟩
      · intro A W hC hg hb
        have h17 : A.eval (.tmp 17) = .string H12 := hg 11 17 (by decide) rfl (by simp [Op.operands]) (by kernel_rfl) rfl
        have h24 : A.eval (.tmp 24) = .string H3 := hg 18 24 (by decide) rfl (by simp [Op.operands]) (by kernel_rfl) rfl
        exact does_value (v := .string H) (w' := W) (by simp only [execOp, h17, h24]; simp [go_sem, hs2]) ⟨rfl, hC, Below.refl _ _⟩
      · intro A W hC hg hb
        have h25 : A.eval (.tmp 25) = .string H := hg 19 25 (by decide) rfl (by simp [Op.operands]) (by kernel_rfl) rfl
        exact does_value (v := .string H) (w' := W) (by simp only [execOp, h25]; simp [go_sem]) ⟨rfl, hC, Below.refl _ _⟩
    intro vs w4 hC hg
    have hg2 := hg 20 (by decide) (fun k => rfl)
    change vs 20 = _ at hg2
    have BL := hid (below_via B0.out hC)
    clear hg hC
    change Exit.then _ _ _ (laidBy _ vs _ 21 _) w4
    simp only [laidBy, if_true, dstAt, List.getElem?_toArray, List.getElem?_cons_succ, List.getElem?_cons_zero, Option.bind_some]
    simp only [Act.put, List.setIfInBounds_toArray, List.set_cons_succ, List.set_cons_zero]
    rw [hg2]
    clear hg2
    go_wp2
    go_ret
    exact ⟨by rw [HR.out]; rfl, BL.out⟩
end Go.Proofs.YthkkhmmcgjcedaaDoor
