/-
  The walk of spec.CellText: what it answers.
-/
import Derived.Test.YthkkhmmcgjcedaaDoorJoint16
import Derived.Test.YthkkhmmcgjcedaaDoorJoint1
import Derived.Test.YthkkhmmcgjcedaaDoorJoint20
import Derived.Laws.Concat
namespace Go.Proofs.YthkkhmmcgjcedaaDoor
open Go.RowKit

set_option maxRecDepth 1000000 in
set_option maxHeartbeats 2000000 in
theorem specCellText_any (d : CellD) (w : World) :
    Calls Tryd.prog 14 #[.agg #[.int .i64 d.dst, .int .i64 d.src, .int .i64 d.kd, .string d.body]] w fun e w' => e = .returned (.tuple #[.string (cellText d).1, .bool (cellText d).2]) ∧ Below w.heap.size w w' := by
  have HB := hid (below_more (Below.refl w.heap.size w) (.cells #[.int .i64 d.dst, .int .i64 d.src, .int .i64 d.kd, .string d.body] 43))
  have hx : BlockIs (w.alloc (.cells #[.int .i64 d.dst, .int .i64 d.src, .int .i64 d.kd, .string d.body] 43)) w.heap.size 43 [.int .i64 d.dst, .int .i64 d.src, .int .i64 d.kd, .string d.body] := heap_alloc_new w _
  obtain ⟨W, hW⟩ : ∃ W, w.alloc (.cells #[.int .i64 d.dst, .int .i64 d.src, .int .i64 d.kd, .string d.body] 43) = W := ⟨_, rfl⟩
  rw [hW] at HB hx
  have HX := hid hx
  have c0 := hx.cell (j := 0) rfl
  have c1 := hx.cell (j := 1) rfl
  have c2 := hx.cell (j := 2) rfl
  have c3 := hx.cell (j := 3) rfl
  clear hx
  go_enter Tryd.func14, Tryd.ntmps14
  go_wp2_with fail
  refine (specCellOk_any d _).mono ?_
  rintro e w2 ⟨rfl, b⟩
  have X2 := hid (HX.out.on b HX.out.lt)
  have B2 := hid (below_via HB.out b)
  have d0 := X2.out.cell (j := 0) rfl
  have d1 := X2.out.cell (j := 1) rfl
  have d2 := X2.out.cell (j := 2) rfl
  have d3 := X2.out.cell (j := 3) rfl
  clear b c0 c1 c2 c3 HX HB hW
  cases hE : cellOk d with
  | false =>
    have HR := hid (cellText_no hE)
    clear hE
    go_wp2
    go_ret2
    exact ⟨by rw [HR.out]; rfl, B2.out⟩
  | true =>
    have HR := hid (cellText_yes hE)
    obtain ⟨⟨a1, a2⟩, ⟨p1, p2⟩, ⟨q1, q2⟩, hz⟩ := cellOk_bd hE
    clear hE
    obtain ⟨A, P, Q, S⟩ := d
    dsimp only at a1 a2 p1 p2 q1 q2 hz X2 d0 d1 d2 d3
    obtain ⟨a, rfl⟩ : ∃ n : Nat, A = n := ⟨A.toNat, by omega⟩
    obtain ⟨p, rfl⟩ : ∃ n : Nat, P = n := ⟨P.toNat, by omega⟩
    obtain ⟨q, rfl⟩ : ∃ n : Nat, Q = n := ⟨Q.toNat, by omega⟩
    have hwa : IntKind.u8.wrap (a : Int) = (a : Int) := by rw [IntKind.wrap_u8]; omega
    have hwp : IntKind.u8.wrap (p : Int) = (p : Int) := by rw [IntKind.wrap_u8]; omega
    have hwq : IntKind.u8.wrap (q : Int) = (q : Int) := by rw [IntKind.wrap_u8]; omega
    have hcv : ∀ W : World, (convert 46 9 (.slice (some ⟨W.heap.size, 0, none⟩) 3 3)).run Tryd.prog (W.alloc (.cells #[.int .u8 (a : Int), .int .u8 (p : Int), .int .u8 (q : Int)] 5)) = .ok (.string (head3 a p q)) (W.alloc (.cells #[.int .u8 (a : Int), .int .u8 (p : Int), .int .u8 (q : Int)] 5)) := fun W => head3_new W (by omega) (by omega) (by omega)
    have hcr : cellRaw ⟨a, p, q, S⟩ = head3 a p q ++ S := rfl
    have hrs := cellRaw_size ⟨a, p, q, S⟩
    dsimp only at hrs
    rw [hcr] at HR hrs
    have h3 := head3_size a p q
    obtain ⟨H, hH⟩ : ∃ H, head3 a p q = H := ⟨_, rfl⟩
    rw [hH] at hcv HR hrs h3
    clear hH
    obtain ⟨R, hR⟩ : ∃ R, H ++ S = R := ⟨_, rfl⟩
    have hs1 : ∀ w, (Op.stringOp .add H S).run Tryd.prog w = .ok (.string R) w := fun w => by rw [run_string_add_sum w _ _ (by omega), hR]
    rw [hR] at HR hrs
    have H3 := hid h3
    clear hR hcr h3
    have B3 := hid (below_more (Below.refl w2.heap.size w2) (.cells #[.int .u8 (a : Int), .int .u8 (p : Int), .int .u8 (q : Int)] 5))
    have X3 := hid (X2.out.on B3.out X2.out.lt)
    have f3 := X3.out.cell (j := 3) rfl
    go_wp2_with fail
    refine (specSealed_yes R (by omega) _).mono ?_
    rintro e w4 ⟨rfl, b4⟩
    have B4 := hid (below_via B2.out (below_via B3.out b4))
    clear b4
    go_wp2
    go_ret2
    exact ⟨by rw [HR.out]; rfl, B4.out⟩
end Go.Proofs.YthkkhmmcgjcedaaDoor
