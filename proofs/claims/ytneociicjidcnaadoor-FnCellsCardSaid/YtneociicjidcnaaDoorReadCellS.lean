/-
  The walk of spec.ReadCell: what it answers.
-/
import Derived.Test.YtneociicjidcnaaDoorCellOkS
import Derived.Test.YtneociicjidcnaaDoorUnsealS
import Derived.BigRegion
namespace Go.Proofs.YtneociicjidcnaaDoor
open Go.RowKit

set_option maxRecDepth 1000000 in
set_option maxHeartbeats 4000000 in
theorem specReadCell_any (s : ByteArray) (hs : s.size ≤ 1048576) (w : World) :
    Calls Tryd.prog 13 #[.string s] w fun e w' => ((CellIn s ∧ e = .returned (.tuple #[.agg #[.int .i64 (cellOf (s.extract 0 (s.size - 4))).dst, .int .i64 (cellOf (s.extract 0 (s.size - 4))).src, .int .i64 (cellOf (s.extract 0 (s.size - 4))).kd, .string (cellOf (s.extract 0 (s.size - 4))).body], .bool true])) ∨ (¬ CellIn s ∧ e = .returned (.tuple #[.agg #[.int .i64 0, .int .i64 0, .int .i64 0, .string ⟨#[]⟩], .bool false]))) ∧ Below w.heap.size w w' := by
  have HB := hid (below_more (Below.refl w.heap.size w) (.cells #[.int .i64 0, .int .i64 0, .int .i64 0, .string ⟨#[]⟩] 25))
  have hx : BlockIs (w.alloc (.cells #[.int .i64 0, .int .i64 0, .int .i64 0, .string ⟨#[]⟩] 25)) w.heap.size 25 [.int .i64 0, .int .i64 0, .int .i64 0, .string ⟨#[]⟩] := heap_alloc_new w _
  have HX := hid hx
  clear hx
  go_enter Tryd.func13, Tryd.ntmps13
  go_wp2_with fail
  refine (specUnsealed_any s (by omega) _).mono ?_
  rintro e w1 ⟨hor, b1⟩
  have X1 := hid (HX.out.on b1 HX.out.lt)
  have B1 := hid (below_via HB.out b1)
  have p0 := X1.out.cell (j := 0) rfl
  have p1 := X1.out.cell (j := 1) rfl
  have p2 := X1.out.cell (j := 2) rfl
  have p3 := X1.out.cell (j := 3) rfl
  have e0 := X1.out.thaw 0
  have e1 := X1.out.thaw 1
  have e2 := X1.out.thaw 2
  have e3 := X1.out.thaw 3
  clear b1 HX HB
  have BLN := hid ((((B1.out.setCell (p := ⟨w.heap.size, 0, none⟩) (Nat.le_refl _) (.int .i64 0)).setCell (p := ⟨w.heap.size, 1, none⟩) (Nat.le_refl _) (.int .i64 0)).setCell (p := ⟨w.heap.size, 2, none⟩) (Nat.le_refl _) (.int .i64 0)).setCell (p := ⟨w.heap.size, 3, none⟩) (Nat.le_refl _) (.string ⟨#[]⟩))
  rcases hor with ⟨hu, rfl⟩ | ⟨hu, rfl⟩
  · have hu2 := hu.2.1
    have hu1 := hu.1
    have HU := hid hu
    have hle : (s.extract 0 (s.size - 4)).size = s.size - 4 := by rw [ByteArray.size_extract]; omega
    have HC : Hid (CellIn s ↔ 3 ≤ (s.extract 0 (s.size - 4)).size ∧ cellOk (cellOf (s.extract 0 (s.size - 4))) = true) := ⟨fun h => ⟨by have := h.2.1; omega, h.2.2⟩, fun h => ⟨HU.out, by have := h.1; omega, h.2⟩⟩
    obtain ⟨U, hU⟩ : ∃ U, s.extract 0 (s.size - 4) = U := ⟨_, rfl⟩
    rw [hU] at hle HC
    have HU2 := hid hU
    rw [hU]
    have hul : U.size ≤ 1048576 := by omega
    clear hU hu hle hu1 hu2
    by_cases h3 : (U.size : Int) < 3
    · have HN : Hid (¬ CellIn s) := fun h => by have := (HC.out.1 h).1; omega
      clear HC
      go_wp2
      refine bodyPost_ret (v := .tuple #[.agg #[.int .i64 0, .int .i64 0, .int .i64 0, .string ⟨#[]⟩], .bool false]) (by simp [results, Tryd.results13, go_sem, p0, p1, p2, p3]) rfl ?_
      exact ⟨Or.inr ⟨HN.out, rfl⟩, BLN.out⟩
    have h30 : ¬ U.size < 3 := by omega
    have i0 : 0 < U.size := by omega
    have i1 : (1 : Int) < (U.size : Int) := by omega
    have i2 : (2 : Int) < (U.size : Int) := by omega
    have q3 := slice_from (P := Tryd.prog) Tryd.underlying9 U 3 3 rfl (by omega)
    have hb0 : ((U[0]'(by omega)).toNat : Int) ≤ 255 := by have := (U[0]'(by omega)).toNat_lt; omega
    have hb1 : ((U[1]'(by omega)).toNat : Int) ≤ 255 := by have := (U[1]'(by omega)).toNat_lt; omega
    have hb2 : ((U[2]'(by omega)).toNat : Int) ≤ 255 := by have := (U[2]'(by omega)).toNat_lt; omega
    have HO : Hid (cellOf U = ⟨((U[0]'(by omega)).toNat : Int), ((U[1]'(by omega)).toNat : Int), ((U[2]'(by omega)).toNat : Int), U.extract 3 U.size⟩) := cellOf_at (by omega)
    obtain ⟨D, hD⟩ : ∃ D, U.extract 3 U.size = D := ⟨_, rfl⟩
    rw [hD] at q3 HO
    clear hD
    go_wp2
    go_region
    have b5 : Below w1.heap.size w1 (w1.alloc (.cells #[.int .i64 ((U[0]'(by omega)).toNat : Int), .int .i64 ((U[1]'(by omega)).toNat : Int), .int .i64 ((U[2]'(by omega)).toNat : Int), .string D] 25)).drew := below_drewN (below_more (Below.refl _ _) _) 1
    have C5 : BlockIs (w1.alloc (.cells #[.int .i64 ((U[0]'(by omega)).toNat : Int), .int .i64 ((U[1]'(by omega)).toNat : Int), .int .i64 ((U[2]'(by omega)).toNat : Int), .string D] 25)).drew w1.heap.size 25 [.int .i64 ((U[0]'(by omega)).toNat : Int), .int .i64 ((U[1]'(by omega)).toNat : Int), .int .i64 ((U[2]'(by omega)).toNat : Int), .string D] := heap_alloc_new w1 _
    obtain ⟨W5, hW5⟩ : ∃ W, (w1.alloc (.cells #[.int .i64 ((U[0]'(by omega)).toNat : Int), .int .i64 ((U[1]'(by omega)).toNat : Int), .int .i64 ((U[2]'(by omega)).toNat : Int), .string D] 25)).drew = W := ⟨_, rfl⟩
    rw [hW5] at b5 C5 ⊢
    have CH5 := hid C5
    have X5 := hid (X1.out.on b5 X1.out.lt)
    have B5 := hid (below_via B1.out b5)
    have d0 := C5.cell (j := 0) rfl
    have d1 := C5.cell (j := 1) rfl
    have d2 := C5.cell (j := 2) rfl
    have d3 := C5.cell (j := 3) rfl
    clear C5 b5 X1 B1 BLN p0 p1 p2 p3 e0 e1 e2 e3 hW5 q3
    have cc := specCellOk_any (cellOf U) W5
    rw [HO.out] at cc
    have CC := hid cc
    clear cc
    go_wp2_with fail
    refine Calls.mono CC.out ?_
    rintro e w6 ⟨rfl, b6⟩
    have X6 := hid (X5.out.on b6 X5.out.lt)
    have C6 := hid (CH5.out.on b6 CH5.out.lt)
    have B6 := hid (below_via B5.out b6)
    clear b6 CC X5 CH5 B5 d0 d1 d2 d3
    have p0 := X6.out.cell (j := 0) rfl
    have p1 := X6.out.cell (j := 1) rfl
    have p2 := X6.out.cell (j := 2) rfl
    have p3 := X6.out.cell (j := 3) rfl
    have e0 := X6.out.thaw 0
    have e1 := X6.out.thaw 1
    have e2 := X6.out.thaw 2
    have e3 := X6.out.thaw 3
    rw [← HO.out]
    cases hE : cellOk (cellOf U) with
    | false =>
      have HN : Hid (¬ CellIn s) := fun h => by have := (HC.out.1 h).2; rw [hE] at this; cases this
      have BLN := hid ((((B6.out.setCell (p := ⟨w.heap.size, 0, none⟩) (Nat.le_refl _) (.int .i64 0)).setCell (p := ⟨w.heap.size, 1, none⟩) (Nat.le_refl _) (.int .i64 0)).setCell (p := ⟨w.heap.size, 2, none⟩) (Nat.le_refl _) (.int .i64 0)).setCell (p := ⟨w.heap.size, 3, none⟩) (Nat.le_refl _) (.string ⟨#[]⟩))
      clear HC hE
      go_wp2
      refine bodyPost_ret (v := .tuple #[.agg #[.int .i64 0, .int .i64 0, .int .i64 0, .string ⟨#[]⟩], .bool false]) (by simp [results, Tryd.results13, go_sem, p0, p1, p2, p3]) rfl ?_
      exact ⟨Or.inr ⟨HN.out, rfl⟩, BLN.out⟩
    | true =>
      have HY : Hid (CellIn s) := HC.out.2 ⟨by omega, hE⟩
      have d0 := C6.out.cell (j := 0) rfl
      have d1 := C6.out.cell (j := 1) rfl
      have d2 := C6.out.cell (j := 2) rfl
      have d3 := C6.out.cell (j := 3) rfl
      have BLY := hid ((((B6.out.setCell (p := ⟨w.heap.size, 0, none⟩) (Nat.le_refl _) (.int .i64 ((U[0]'(by omega)).toNat : Int))).setCell (p := ⟨w.heap.size, 1, none⟩) (Nat.le_refl _) (.int .i64 ((U[1]'(by omega)).toNat : Int))).setCell (p := ⟨w.heap.size, 2, none⟩) (Nat.le_refl _) (.int .i64 ((U[2]'(by omega)).toNat : Int))).setCell (p := ⟨w.heap.size, 3, none⟩) (Nat.le_refl _) (.string D))
      clear HC hE
      go_wp2
      refine bodyPost_ret (v := .tuple #[.agg #[.int .i64 ((U[0]'(by omega)).toNat : Int), .int .i64 ((U[1]'(by omega)).toNat : Int), .int .i64 ((U[2]'(by omega)).toNat : Int), .string D], .bool true]) (by simp [results, Tryd.results13, go_sem, p0, p1, p2, p3]) rfl ?_
      refine ⟨Or.inl ⟨HY.out, ?_⟩, BLY.out⟩
      rw [HU2.out, HO.out]
  · have HN : Hid (¬ CellIn s) := fun h => hu h.1
    clear hu
    go_wp2
    refine bodyPost_ret (v := .tuple #[.agg #[.int .i64 0, .int .i64 0, .int .i64 0, .string ⟨#[]⟩], .bool false]) (by simp [results, Tryd.results13, go_sem, p0, p1, p2, p3]) rfl ?_
    exact ⟨Or.inr ⟨HN.out, rfl⟩, BLN.out⟩
end Go.Proofs.YtneociicjidcnaaDoor
