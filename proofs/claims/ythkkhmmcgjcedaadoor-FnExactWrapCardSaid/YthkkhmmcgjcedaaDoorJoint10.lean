/-
  The walk of spec.SegText: what it answers.
-/
import Derived.Test.YthkkhmmcgjcedaaDoorJoint7
import Derived.Test.YthkkhmmcgjcedaaDoorJoint8
import Derived.Test.YthkkhmmcgjcedaaDoorJoint1
import Derived.Test.YthkkhmmcgjcedaaDoorJoint9
import Derived.Laws.Concat
namespace Go.Proofs.YthkkhmmcgjcedaaDoor
open Go.RowKit

set_option maxRecDepth 1000000 in
set_option maxHeartbeats 4000000 in
theorem specSegText_any (d : SegD) (hs : d.body.size ≤ 9223372036854775000) (w : World) :
    Calls Tryd.prog 11 #[.agg #[.int .i64 d.num, .int .i64 d.ack, .int .i64 d.flags, .string d.body]] w fun e w' => e = .returned (.tuple #[.string (segText d).1, .bool (segText d).2]) ∧ Below w.heap.size w w' := by
  have HB := hid (below_more (Below.refl w.heap.size w) (.cells #[.int .i64 d.num, .int .i64 d.ack, .int .i64 d.flags, .string d.body] 28))
  have hx : BlockIs (w.alloc (.cells #[.int .i64 d.num, .int .i64 d.ack, .int .i64 d.flags, .string d.body] 28)) w.heap.size 28 [.int .i64 d.num, .int .i64 d.ack, .int .i64 d.flags, .string d.body] := heap_alloc_new w _
  obtain ⟨W, hW⟩ : ∃ W, w.alloc (.cells #[.int .i64 d.num, .int .i64 d.ack, .int .i64 d.flags, .string d.body] 28) = W := ⟨_, rfl⟩
  rw [hW] at HB hx
  have HX := hid hx
  have c0 := hx.cell (j := 0) rfl
  have c1 := hx.cell (j := 1) rfl
  have c2 := hx.cell (j := 2) rfl
  have c3 := hx.cell (j := 3) rfl
  clear hx
  go_enter Tryd.func11, Tryd.ntmps11
  go_wp2_with fail
  refine (specSegOk_any d hs _).mono ?_
  rintro e w2 ⟨rfl, b⟩
  have X2 := hid (HX.out.on b HX.out.lt)
  have B2 := hid (below_via HB.out b)
  clear b c0 c1 c2 c3 HX HB hW
  cases hE : segOk d with
  | false =>
    have HR := hid (segText_no hE)
    clear hE
    go_wp2
    go_ret2
    exact ⟨by rw [HR.out]; rfl, B2.out⟩
  | true =>
    have HR := hid (segText_yes hE)
    obtain ⟨⟨a1, a2⟩, ⟨p1, p2⟩, ⟨q1, q2⟩, hz, _⟩ := segOk_iff.1 hE
    clear hE
    obtain ⟨Aq, Pq, Qq, s⟩ := d
    dsimp only at a1 a2 p1 p2 q1 q2 hz X2 hs
    obtain ⟨a, rfl⟩ : ∃ n : Nat, Aq = n := ⟨Aq.toNat, by omega⟩
    obtain ⟨b, rfl⟩ : ∃ n : Nat, Pq = n := ⟨Pq.toNat, by omega⟩
    obtain ⟨f, rfl⟩ : ∃ n : Nat, Qq = n := ⟨Qq.toNat, by omega⟩
    have hwf : IntKind.u8.wrap (f : Int) = (f : Int) := by rw [IntKind.wrap_u8]; omega
    have HTX : Hid (sText ⟨(a : Int), (b : Int), (f : Int), s⟩ = ⟨(twoB a).toArray⟩ ++ ⟨(twoB b).toArray⟩ ++ ⟨#[UInt8.ofNat f]⟩ ++ s) := rfl
    have D1 := hid (fun W => l11Two_any a (by omega) W)
    have D2 := hid (fun W => l11Two_any b (by omega) W)
    have hcv := hid (fun (W : World) (g : Nat) (h : BlockIs W g 5 [.int .u8 (f : Int)]) => one1_text (a := f) (by omega) h)
    obtain ⟨H1, e1⟩ : ∃ H : ByteArray, ⟨(twoB a).toArray⟩ = H := ⟨_, rfl⟩
    obtain ⟨H2, e2⟩ : ∃ H : ByteArray, ⟨(twoB b).toArray⟩ = H := ⟨_, rfl⟩
    obtain ⟨H3, e3⟩ : ∃ H : ByteArray, ⟨#[UInt8.ofNat f]⟩ = H := ⟨_, rfl⟩
    have hz1 : H1.size = 2 := by rw [← e1]; rfl
    have hz2 : H2.size = 2 := by rw [← e2]; rfl
    have hz3 : H3.size = 1 := by rw [← e3]; rfl
    rw [e1, e2, e3] at HTX
    rw [e1] at D1
    rw [e2] at D2
    rw [e3] at hcv
    clear e1 e2 e3
    obtain ⟨H12, e12⟩ : ∃ H, H1 ++ H2 = H := ⟨_, rfl⟩
    have hz12 : H12.size = 4 := by rw [← e12, ByteArray.size_append]; omega
    obtain ⟨H123, e123⟩ : ∃ H, H12 ++ H3 = H := ⟨_, rfl⟩
    have hz123 : H123.size = 5 := by rw [← e123, ByteArray.size_append]; omega
    obtain ⟨H, eH⟩ : ∃ H, H123 ++ s = H := ⟨_, rfl⟩
    have hs1 : ∀ w, (Op.stringOp .add H1 H2).run Tryd.prog w = .ok (.string H12) w := fun w => by rw [run_string_add_sum w _ _ (by omega), e12]
    have hs2 : ∀ w, (Op.stringOp .add H12 H3).run Tryd.prog w = .ok (.string H123) w := fun w => by rw [run_string_add_sum w _ _ (by omega), e123]
    have hs3 : ∀ w, (Op.stringOp .add H123 s).run Tryd.prog w = .ok (.string H) w := fun w => by rw [run_string_add_sum w _ _ (by omega), eH]
    rw [e12, e123, eH] at HTX
    clear e12 e123 eH hz1 hz2 hz3 hz12
    go_wp2
    refine wp_region_each (N := 23) (by kernel_rfl) (by kernel_rfl) rfl (by kernel_rfl) (fun W => Below w2.heap.size w2 W) (fun j v _ W => match j with | 0 => v = .pointer (some ⟨w.heap.size, 0, none⟩) | 1 => v = .int .i64 (a : Int) | 2 => v = .string H1 | 3 => v = .pointer (some ⟨w.heap.size, 1, none⟩) | 4 => v = .int .i64 (b : Int) | 5 => v = .string H2 | 6 => v = .string H12 | 7 => v = .pointer (some ⟨w.heap.size, 2, none⟩) | 8 => v = .int .i64 (f : Int) | 9 => v = .int .u8 (f : Int) | 10 => ∃ g, v = .slice (some ⟨g, 0, none⟩) 1 1 ∧ BlockIs W g 5 [.int .u8 (f : Int)] | 11 => v = .string H3 | 12 => v = .string H123 | 13 => v = .pointer (some ⟨w.heap.size, 3, none⟩) | 14 => v = .string s | 15 => v = .string H | 16 => v = .string H | 17 => v = .bool true | _ => True) (fun i => i) (fun _ _ => false) (fun _ x y => Below x.heap.size x y) (fun _ => 0) (by kernel_rfl) (fun _ _ => rfl) ?_ (below_drewN (Below.refl _ _) 1) ?_ ?_
    · intro i j v u x y hij hdd hwt hxy hg
      match j, hg with
      | 0, hg => exact hg
      | 1, hg => exact hg
      | 2, hg => exact hg
      | 3, hg => exact hg
      | 4, hg => exact hg
      | 5, hg => exact hg
      | 6, hg => exact hg
      | 7, hg => exact hg
      | 8, hg => exact hg
      | 9, hg => exact hg
      | 10, hg =>
        obtain ⟨g, e1, h⟩ := hg
        exact ⟨g, e1, h.on hxy h.lt⟩
      | 11, hg => exact hg
      | 12, hg => exact hg
      | 13, hg => exact hg
      | 14, hg => exact hg
      | 15, hg => exact hg
      | 16, hg => exact hg
      | 17, hg => exact hg
      | n + 18, _ => exact trivial
    · refine ⟨?_, ?_, ?_, ?_, ?_, ?_, ?_, ?_, ?_, ?_, ?_, ?_, ?_, ?_, ?_, ?_, ?_, ?_, trivial⟩
      · intro A W hC hg hb
        have h1 : A.eval (.tmp 1) = .pointer (some ⟨w.heap.size, 0, none⟩) := hb 1 (base_of (by kernel_rfl))
        exact does_value (v := .pointer (some ⟨w.heap.size, 0, none⟩)) (w' := W) (by simp only [execOp, h1]; simp [go_sem]) ⟨rfl, hC, Below.refl _ _⟩
      · intro A W hC hg hb
        have h7 : A.eval (.tmp 7) = .pointer (some ⟨w.heap.size, 0, none⟩) := hg 0 7 (by decide) rfl (by simp [Op.operands]) (by kernel_rfl) rfl
        have hc := (X2.out.on hC X2.out.lt).cell (j := 0) rfl
        exact does_value (v := .int .i64 (a : Int)) (w' := W) (by simp only [execOp, h7]; simp [go_sem, hc]) ⟨rfl, hC, Below.refl _ _⟩
      · intro A W hC hg hb
        have h8 : A.eval (.tmp 8) = .int .i64 (a : Int) := hg 1 8 (by decide) rfl (by simp [Op.operands, Call.operands]) (by kernel_rfl) rfl
        simp [go_sem] at h8
        refine does_enter (f := 21) (args := #[.int .i64 (a : Int)]) (w' := W) (by simp [go_sem, h8]) ?_
        refine (D1.out W).mono ?_
        rintro e w3 ⟨rfl, b3⟩
        exact ⟨_, rfl, rfl, below_via hC b3, b3⟩
      · intro A W hC hg hb
        have h1 : A.eval (.tmp 1) = .pointer (some ⟨w.heap.size, 0, none⟩) := hb 1 (base_of (by kernel_rfl))
        exact does_value (v := .pointer (some ⟨w.heap.size, 1, none⟩)) (w' := W) (by simp only [execOp, h1]; simp [go_sem]) ⟨rfl, hC, Below.refl _ _⟩
      · intro A W hC hg hb
        have h10 : A.eval (.tmp 10) = .pointer (some ⟨w.heap.size, 1, none⟩) := hg 3 10 (by decide) rfl (by simp [Op.operands]) (by kernel_rfl) rfl
        have hc := (X2.out.on hC X2.out.lt).cell (j := 1) rfl
        exact does_value (v := .int .i64 (b : Int)) (w' := W) (by simp only [execOp, h10]; simp [go_sem, hc]) ⟨rfl, hC, Below.refl _ _⟩
      · intro A W hC hg hb
        have h11 : A.eval (.tmp 11) = .int .i64 (b : Int) := hg 4 11 (by decide) rfl (by simp [Op.operands, Call.operands]) (by kernel_rfl) rfl
        simp [go_sem] at h11
        refine does_enter (f := 21) (args := #[.int .i64 (b : Int)]) (w' := W) (by simp [go_sem, h11]) ?_
        refine (D2.out W).mono ?_
        rintro e w3 ⟨rfl, b3⟩
        exact ⟨_, rfl, rfl, below_via hC b3, b3⟩
      · intro A W hC hg hb
        have h9 : A.eval (.tmp 9) = .string H1 := hg 2 9 (by decide) rfl (by simp [Op.operands]) (by kernel_rfl) rfl
        have h12 : A.eval (.tmp 12) = .string H2 := hg 5 12 (by decide) rfl (by simp [Op.operands]) (by kernel_rfl) rfl
        exact does_value (v := .string H12) (w' := W) (by simp only [execOp, h9, h12]; simp [go_sem, hs1]) ⟨rfl, hC, Below.refl _ _⟩
      · intro A W hC hg hb
        have h1 : A.eval (.tmp 1) = .pointer (some ⟨w.heap.size, 0, none⟩) := hb 1 (base_of (by kernel_rfl))
        exact does_value (v := .pointer (some ⟨w.heap.size, 2, none⟩)) (w' := W) (by simp only [execOp, h1]; simp [go_sem]) ⟨rfl, hC, Below.refl _ _⟩
      · intro A W hC hg hb
        have h14 : A.eval (.tmp 14) = .pointer (some ⟨w.heap.size, 2, none⟩) := hg 7 14 (by decide) rfl (by simp [Op.operands]) (by kernel_rfl) rfl
        have hc := (X2.out.on hC X2.out.lt).cell (j := 2) rfl
        exact does_value (v := .int .i64 (f : Int)) (w' := W) (by simp only [execOp, h14]; simp [go_sem, hc]) ⟨rfl, hC, Below.refl _ _⟩
      · intro A W hC hg hb
        have h15 : A.eval (.tmp 15) = .int .i64 (f : Int) := hg 8 15 (by decide) rfl (by simp [Op.operands]) (by kernel_rfl) rfl
        exact does_value (v := .int .u8 (f : Int)) (w' := W) (by simp only [execOp, h15]; simp [go_sem, hwf]) ⟨rfl, hC, Below.refl _ _⟩
      · intro A W hC hg hb
        have h16 : A.eval (.tmp 16) = .int .u8 (f : Int) := hg 9 16 (by decide) rfl (by simp [Op.operands]) (by kernel_rfl) rfl
        simp [go_sem] at h16
        exact does_value (v := .slice (some ⟨W.heap.size, 0, none⟩) 1 1) (w' := W.alloc (.cells #[.int .u8 (f : Int)] 5)) (by simp [execOp, go_sem, h16]) ⟨⟨_, rfl, heap_alloc_new W _⟩, below_more hC _, below_more (Below.refl _ _) _⟩
      · intro A W hC hg hb
        have g10 := hg 10 17 (by decide) rfl (by simp [Op.operands]) (by kernel_rfl) rfl
        obtain ⟨g, h17, hB⟩ := g10
        have hcw := hcv.out W g hB
        exact does_value (v := .string H3) (w' := W) (by simp only [execOp, h17]; simp [go_sem, hcw]) ⟨rfl, hC, Below.refl _ _⟩
      · intro A W hC hg hb
        have h13 : A.eval (.tmp 13) = .string H12 := hg 6 13 (by decide) rfl (by simp [Op.operands]) (by kernel_rfl) rfl
        have h18 : A.eval (.tmp 18) = .string H3 := hg 11 18 (by decide) rfl (by simp [Op.operands]) (by kernel_rfl) rfl
        exact does_value (v := .string H123) (w' := W) (by simp only [execOp, h13, h18]; simp [go_sem, hs2]) ⟨rfl, hC, Below.refl _ _⟩
      · intro A W hC hg hb
        have h1 : A.eval (.tmp 1) = .pointer (some ⟨w.heap.size, 0, none⟩) := hb 1 (base_of (by kernel_rfl))
        exact does_value (v := .pointer (some ⟨w.heap.size, 3, none⟩)) (w' := W) (by simp only [execOp, h1]; simp [go_sem]) ⟨rfl, hC, Below.refl _ _⟩
      · intro A W hC hg hb
        have h20 : A.eval (.tmp 20) = .pointer (some ⟨w.heap.size, 3, none⟩) := hg 13 20 (by decide) rfl (by simp [Op.operands]) (by kernel_rfl) rfl
        have hc := (X2.out.on hC X2.out.lt).cell (j := 3) rfl
        exact does_value (v := .string s) (w' := W) (by simp only [execOp, h20]; simp [go_sem, hc]) ⟨rfl, hC, Below.refl _ _⟩
      · intro A W hC hg hb
        have h19 : A.eval (.tmp 19) = .string H123 := hg 12 19 (by decide) rfl (by simp [Op.operands]) (by kernel_rfl) rfl
        have h21 : A.eval (.tmp 21) = .string s := hg 14 21 (by decide) rfl (by simp [Op.operands]) (by kernel_rfl) rfl
        exact does_value (v := .string H) (w' := W) (by simp only [execOp, h19, h21]; simp [go_sem, hs3]) ⟨rfl, hC, Below.refl _ _⟩
      · intro A W hC hg hb
        have h22 : A.eval (.tmp 22) = .string H := hg 15 22 (by decide) rfl (by simp [Op.operands]) (by kernel_rfl) rfl
        exact does_value (v := .string H) (w' := W) (by simp only [execOp, h22]; simp [go_sem]) ⟨rfl, hC, Below.refl _ _⟩
      · intro A W hC hg hb
        exact does_value (v := .bool true) (w' := W) (by simp only [execOp]; simp [go_sem]) ⟨rfl, hC, Below.refl _ _⟩
    intro vs w3 hC hg
    have hg16 := hg 16 (by decide) (fun k => rfl)
    change vs 16 = _ at hg16
    have hg17 := hg 17 (by decide) (fun k => rfl)
    change vs 17 = _ at hg17
    have BL := hid (below_via B2.out hC)
    have X3 := hid (X2.out.on hC X2.out.lt)
    have z3 := X3.out.cell (j := 3) rfl
    clear hg hC
    change Exit.then _ _ _ (laidBy _ vs _ 18 _) w3
    simp only [laidBy, if_true, dstAt, List.getElem?_toArray, List.getElem?_cons_succ, List.getElem?_cons_zero, Option.bind_some]
    simp only [Act.put, List.setIfInBounds_toArray, List.set_cons_succ, List.set_cons_zero]
    rw [hg16, hg17]
    clear hg16 hg17
    go_wp2
    go_ret2
    exact ⟨by rw [HR.out, HTX.out]; rfl, BL.out⟩
end Go.Proofs.YthkkhmmcgjcedaaDoor
