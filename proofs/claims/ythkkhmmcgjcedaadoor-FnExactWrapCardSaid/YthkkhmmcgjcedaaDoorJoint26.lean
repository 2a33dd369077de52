/-
  The walk of impl.SegText: what it answers.
-/
import Derived.Test.YthkkhmmcgjcedaaDoorJoint23
import Derived.Test.YthkkhmmcgjcedaaDoorJoint25
import Derived.Test.YthkkhmmcgjcedaaDoorJoint1
import Derived.Test.YthkkhmmcgjcedaaDoorJoint9
import Derived.Laws.Concat
namespace Go.Proofs.YthkkhmmcgjcedaaDoor
open Go.RowKit

set_option maxRecDepth 1000000 in
set_option maxHeartbeats 4000000 in
theorem implSegText_any (d : SegD) (hs : d.body.size ≤ 9223372036854775000) (w : World) :
    Calls Tryd.prog 15 #[.agg #[.int .i64 d.num, .int .i64 d.ack, .int .i64 d.flags, .string d.body]] w fun e w' => e = .returned (.tuple #[.string (segText d).1, .bool (segText d).2]) ∧ Below w.heap.size w w' := by
  have HB := hid (below_more (Below.refl w.heap.size w) (.cells #[.int .i64 d.num, .int .i64 d.ack, .int .i64 d.flags, .string d.body] 28))
  have hx : BlockIs (w.alloc (.cells #[.int .i64 d.num, .int .i64 d.ack, .int .i64 d.flags, .string d.body] 28)) w.heap.size 28 [.int .i64 d.num, .int .i64 d.ack, .int .i64 d.flags, .string d.body] := heap_alloc_new w _
  obtain ⟨W, hW⟩ : ∃ W, w.alloc (.cells #[.int .i64 d.num, .int .i64 d.ack, .int .i64 d.flags, .string d.body] 28) = W := ⟨_, rfl⟩
  rw [hW] at HB hx
  have HX := hid hx
  have c0 := hx.cell (j := 0) rfl
  have c1 := hx.cell (j := 1) rfl
  have c2 := hx.cell (j := 2) rfl
  have c3 := hx.cell (j := 3) rfl
  clear hx
  go_enter Tryd.func15, Tryd.ntmps15
  go_wp2_with fail
  refine (implSegOk_any d hs _).mono ?_
  rintro e w2 ⟨rfl, b⟩
  have X2 := hid (HX.out.on b HX.out.lt)
  have B2 := hid (below_via HB.out b)
  clear b c0 c1 c2 c3 HX HB hW
  cases hE : segOk d with
  | false =>
    have HR := hid (segText_no hE)
    clear hE
    go_wp2
    go_ret2
    exact ⟨by rw [HR.out]; rfl, B2.out⟩
  | true =>
    have HR := hid (segText_yes hE)
    obtain ⟨⟨a1, a2⟩, ⟨p1, p2⟩, ⟨q1, q2⟩, hz, _⟩ := segOk_iff.1 hE
    clear hE
    obtain ⟨Aq, Pq, Qq, s⟩ := d
    dsimp only at a1 a2 p1 p2 q1 q2 hz X2 hs
    obtain ⟨a, rfl⟩ : ∃ n : Nat, Aq = n := ⟨Aq.toNat, by omega⟩
    obtain ⟨b, rfl⟩ : ∃ n : Nat, Pq = n := ⟨Pq.toNat, by omega⟩
    obtain ⟨f, rfl⟩ : ∃ n : Nat, Qq = n := ⟨Qq.toNat, by omega⟩
    have hwf : IntKind.u8.wrap (f : Int) = (f : Int) := by rw [IntKind.wrap_u8]; omega
    have hwa : IntKind.u16.wrap (a : Int) = (a : Int) := by rw [IntKind.wrap_u16]; omega
    have hwb : IntKind.u16.wrap (b : Int) = (b : Int) := by rw [IntKind.wrap_u16]; omega
    have HTX : Hid (sText ⟨(a : Int), (b : Int), (f : Int), s⟩ = ⟨(twoB a).toArray⟩ ++ ⟨(twoB b).toArray⟩ ++ ⟨#[UInt8.ofNat f]⟩ ++ s) := rfl
    have D1 := hid (fun W => numText_any a (by omega) W)
    have D2 := hid (fun W => numText_any b (by omega) W)
    have hcv := hid (fun (W : World) (g : Nat) (h : BlockIs W g 5 [.int .u8 (f : Int)]) => one1_text (a := f) (by omega) h)
    obtain ⟨H1, e1⟩ : ∃ H : ByteArray, ⟨(twoB a).toArray⟩ = H := ⟨_, rfl⟩
    obtain ⟨H2, e2⟩ : ∃ H : ByteArray, ⟨(twoB b).toArray⟩ = H := ⟨_, rfl⟩
    obtain ⟨H3, e3⟩ : ∃ H : ByteArray, ⟨#[UInt8.ofNat f]⟩ = H := ⟨_, rfl⟩
    have hz1 : H1.size = 2 := by rw [← e1]; rfl
    have hz2 : H2.size = 2 := by rw [← e2]; rfl
    have hz3 : H3.size = 1 := by rw [← e3]; rfl
    rw [e1, e2, e3] at HTX
    rw [e1] at D1
    rw [e2] at D2
    rw [e3] at hcv
    clear e1 e2 e3
    obtain ⟨H12, e12⟩ : ∃ H, H1 ++ H2 = H := ⟨_, rfl⟩
    have hz12 : H12.size = 4 := by rw [← e12, ByteArray.size_append]; omega
    obtain ⟨H123, e123⟩ : ∃ H, H12 ++ H3 = H := ⟨_, rfl⟩
    have hz123 : H123.size = 5 := by rw [← e123, ByteArray.size_append]; omega
    obtain ⟨H, eH⟩ : ∃ H, H123 ++ s = H := ⟨_, rfl⟩
    have hs1 : ∀ w, (Op.stringOp .add H1 H2).run Tryd.prog w = .ok (.string H12) w := fun w => by rw [run_string_add_sum w _ _ (by omega), e12]
    have hs2 : ∀ w, (Op.stringOp .add H12 H3).run Tryd.prog w = .ok (.string H123) w := fun w => by rw [run_string_add_sum w _ _ (by omega), e123]
    have hs3 : ∀ w, (Op.stringOp .add H123 s).run Tryd.prog w = .ok (.string H) w := fun w => by rw [run_string_add_sum w _ _ (by omega), eH]
    rw [e12, e123, eH] at HTX
    clear e12 e123 eH hz1 hz2 hz3 hz12
    go_wp2
    refine wp_region_each (N := 27) (by kernel_rfl) (by kernel_rfl) rfl (by kernel_rfl) (fun W => Below w2.heap.size w2 W) (fun j v _ W => match j with | 0 => v = .pointer (some ⟨w.heap.size, 0, none⟩) | 1 => v = .int .i64 (a : Int) | 2 => v = .int .u16 (a : Int) | 3 => v = .string H1 | 4 => v = .pointer (some ⟨w.heap.size, 1, none⟩) | 5 => v = .int .i64 (b : Int) | 6 => v = .int .u16 (b : Int) | 7 => v = .string H2 | 8 => v = .string H12 | 9 => v = .pointer (some ⟨w.heap.size, 2, none⟩) | 10 => v = .int .i64 (f : Int) | 11 => v = .int .u8 (f : Int) | 12 => ∃ g, v = .slice (some ⟨g, 0, none⟩) 1 1 ∧ BlockIs W g 5 [.int .u8 (f : Int)] | 13 => v = .string H3 | 14 => v = .string H123 | 15 => v = .string H123 | _ => True) (fun i => i) (fun _ _ => false) (fun _ x y => Below x.heap.size x y) (fun _ => 0) (by kernel_rfl) (fun _ _ => rfl) ?_ (below_drewN (Below.refl _ _) 1) ?_ ?_
    · intro i j v u x y hij hdd hwt hxy hg
      match j, hg with
      | 0, hg => exact hg
      | 1, hg => exact hg
      | 2, hg => exact hg
      | 3, hg => exact hg
      | 4, hg => exact hg
      | 5, hg => exact hg
      | 6, hg => exact hg
      | 7, hg => exact hg
      | 8, hg => exact hg
      | 9, hg => exact hg
      | 10, hg => exact hg
      | 11, hg => exact hg
      | 12, hg =>
        obtain ⟨g, e1, h⟩ := hg
        exact ⟨g, e1, h.on hxy h.lt⟩
      | 13, hg => exact hg
      | 14, hg => exact hg
      | 15, hg => exact hg
      | n + 16, _ => exact trivial
    · refine ⟨?_, ?_, ?_, ?_, ?_, ?_, ?_, ?_, ?_, ?_, ?_, ?_, ?_, ?_, ?_, ?_, trivial⟩
      · intro A W hC hg hb
        have h1 : A.eval (.tmp 1) = .pointer (some ⟨w.heap.size, 0, none⟩) := hb 1 (base_of (by kernel_rfl))
        exact does_value (v := .pointer (some ⟨w.heap.size, 0, none⟩)) (w' := W) (by simp only [execOp, h1]; simp [go_sem]) ⟨rfl, hC, Below.refl _ _⟩
      · intro A W hC hg hb
        have h8 : A.eval (.tmp 8) = .pointer (some ⟨w.heap.size, 0, none⟩) := hg 0 8 (by decide) rfl (by simp [Op.operands]) (by kernel_rfl) rfl
        have hc := (X2.out.on hC X2.out.lt).cell (j := 0) rfl
        exact does_value (v := .int .i64 (a : Int)) (w' := W) (by simp only [execOp, h8]; simp [go_sem, hc]) ⟨rfl, hC, Below.refl _ _⟩
      · intro A W hC hg hb
        have h9 : A.eval (.tmp 9) = .int .i64 (a : Int) := hg 1 9 (by decide) rfl (by simp [Op.operands]) (by kernel_rfl) rfl
        exact does_value (v := .int .u16 (a : Int)) (w' := W) (by simp only [execOp, h9]; simp [go_sem, hwa]) ⟨rfl, hC, Below.refl _ _⟩
      · intro A W hC hg hb
        have h10 : A.eval (.tmp 10) = .int .u16 (a : Int) := hg 2 10 (by decide) rfl (by simp [Op.operands, Call.operands]) (by kernel_rfl) rfl
        simp [go_sem] at h10
        refine does_enter (f := 29) (args := #[.int .u16 (a : Int)]) (w' := W) (by simp [go_sem, h10]) ?_
        refine (D1.out W).mono ?_
        rintro e w3 ⟨rfl, b3⟩
        exact ⟨_, rfl, rfl, below_via hC b3, b3⟩
      · intro A W hC hg hb
        have h1 : A.eval (.tmp 1) = .pointer (some ⟨w.heap.size, 0, none⟩) := hb 1 (base_of (by kernel_rfl))
        exact does_value (v := .pointer (some ⟨w.heap.size, 1, none⟩)) (w' := W) (by simp only [execOp, h1]; simp [go_sem]) ⟨rfl, hC, Below.refl _ _⟩
      · intro A W hC hg hb
        have h12 : A.eval (.tmp 12) = .pointer (some ⟨w.heap.size, 1, none⟩) := hg 4 12 (by decide) rfl (by simp [Op.operands]) (by kernel_rfl) rfl
        have hc := (X2.out.on hC X2.out.lt).cell (j := 1) rfl
        exact does_value (v := .int .i64 (b : Int)) (w' := W) (by simp only [execOp, h12]; simp [go_sem, hc]) ⟨rfl, hC, Below.refl _ _⟩
      · intro A W hC hg hb
        have h13 : A.eval (.tmp 13) = .int .i64 (b : Int) := hg 5 13 (by decide) rfl (by simp [Op.operands]) (by kernel_rfl) rfl
        exact does_value (v := .int .u16 (b : Int)) (w' := W) (by simp only [execOp, h13]; simp [go_sem, hwb]) ⟨rfl, hC, Below.refl _ _⟩
      · intro A W hC hg hb
        have h14 : A.eval (.tmp 14) = .int .u16 (b : Int) := hg 6 14 (by decide) rfl (by simp [Op.operands, Call.operands]) (by kernel_rfl) rfl
        simp [go_sem] at h14
        refine does_enter (f := 29) (args := #[.int .u16 (b : Int)]) (w' := W) (by simp [go_sem, h14]) ?_
        refine (D2.out W).mono ?_
        rintro e w3 ⟨rfl, b3⟩
        exact ⟨_, rfl, rfl, below_via hC b3, b3⟩
      · intro A W hC hg hb
        have h11 : A.eval (.tmp 11) = .string H1 := hg 3 11 (by decide) rfl (by simp [Op.operands]) (by kernel_rfl) rfl
        have h15 : A.eval (.tmp 15) = .string H2 := hg 7 15 (by decide) rfl (by simp [Op.operands]) (by kernel_rfl) rfl
        exact does_value (v := .string H12) (w' := W) (by simp only [execOp, h11, h15]; simp [go_sem, hs1]) ⟨rfl, hC, Below.refl _ _⟩
      · intro A W hC hg hb
        have h1 : A.eval (.tmp 1) = .pointer (some ⟨w.heap.size, 0, none⟩) := hb 1 (base_of (by kernel_rfl))
        exact does_value (v := .pointer (some ⟨w.heap.size, 2, none⟩)) (w' := W) (by simp only [execOp, h1]; simp [go_sem]) ⟨rfl, hC, Below.refl _ _⟩
      · intro A W hC hg hb
        have h17 : A.eval (.tmp 17) = .pointer (some ⟨w.heap.size, 2, none⟩) := hg 9 17 (by decide) rfl (by simp [Op.operands]) (by kernel_rfl) rfl
        have hc := (X2.out.on hC X2.out.lt).cell (j := 2) rfl
        exact does_value (v := .int .i64 (f : Int)) (w' := W) (by simp only [execOp, h17]; simp [go_sem, hc]) ⟨rfl, hC, Below.refl _ _⟩
      · intro A W hC hg hb
        have h18 : A.eval (.tmp 18) = .int .i64 (f : Int) := hg 10 18 (by decide) rfl (by simp [Op.operands]) (by kernel_rfl) rfl
        exact does_value (v := .int .u8 (f : Int)) (w' := W) (by simp only [execOp, h18]; simp [go_sem, hwf]) ⟨rfl, hC, Below.refl _ _⟩
      · intro A W hC hg hb
        have h19 : A.eval (.tmp 19) = .int .u8 (f : Int) := hg 11 19 (by decide) rfl (by simp [Op.operands]) (by kernel_rfl) rfl
        simp [go_sem] at h19
        exact does_value (v := .slice (some ⟨W.heap.size, 0, none⟩) 1 1) (w' := W.alloc (.cells #[.int .u8 (f : Int)] 5)) (by simp [execOp, go_sem, h19]) ⟨⟨_, rfl, heap_alloc_new W _⟩, below_more hC _, below_more (Below.refl _ _) _⟩
      · intro A W hC hg hb
        have g12 := hg 12 20 (by decide) rfl (by simp [Op.operands]) (by kernel_rfl) rfl
        obtain ⟨g, h20, hB⟩ := g12
        have hcw := hcv.out W g hB
        exact does_value (v := .string H3) (w' := W) (by simp only [execOp, h20]; simp [go_sem, hcw]) ⟨rfl, hC, Below.refl _ _⟩
      · intro A W hC hg hb
        have h16 : A.eval (.tmp 16) = .string H12 := hg 8 16 (by decide) rfl (by simp [Op.operands]) (by kernel_rfl) rfl
        have h21 : A.eval (.tmp 21) = .string H3 := hg 13 21 (by decide) rfl (by simp [Op.operands]) (by kernel_rfl) rfl
        exact does_value (v := .string H123) (w' := W) (by simp only [execOp, h16, h21]; simp [go_sem, hs2]) ⟨rfl, hC, Below.refl _ _⟩
      · intro A W hC hg hb
        have h22 : A.eval (.tmp 22) = .string H123 := hg 14 22 (by decide) rfl (by simp [Op.operands]) (by kernel_rfl) rfl
        exact does_value (v := .string H123) (w' := W) (by simp only [execOp, h22]; simp [go_sem]) ⟨rfl, hC, Below.refl _ _⟩
    intro vs w3 hC hg
    have hg15 := hg 15 (by decide) (fun k => rfl)
    change vs 15 = _ at hg15
    have BL := hid (below_via B2.out hC)
    have X3 := hid (X2.out.on hC X2.out.lt)
    have z3 := X3.out.cell (j := 3) rfl
    clear hg hC
    change Exit.then _ _ _ (laidBy _ vs _ 16 _) w3
    simp only [laidBy, if_true, dstAt, List.getElem?_toArray, List.getElem?_cons_succ, List.getElem?_cons_zero, Option.bind_some]
    simp only [Act.put, List.setIfInBounds_toArray, List.set_cons_succ, List.set_cons_zero]
    rw [hg15]
    clear hg15
    go_wp2
    go_ret2
    exact ⟨by rw [HR.out, HTX.out]; rfl, BL.out⟩
end Go.Proofs.YthkkhmmcgjcedaaDoor
