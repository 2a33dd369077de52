/-
  The walk of laws.heldStreamS over two streams that bear marks.
-/
import Derived.Test.YthkkhmmcgjcedaaEndsNil
import Derived.Test.YthkkhmmcgjcedaaMarkText
import Derived.WalkSmall
import Derived.WalkKit
namespace Go.Proofs.Ythkkhmmcgjcedaa
open Go.RowKit Go.Sort

set_option maxRecDepth 1000000 in
set_option maxHeartbeats 4000000 in
theorem heldStreamS_two (p : Nat) (w : World) (h : BlockIs w p 42 [.int .i64 1, .int .i64 2, .int .i64 3, .int .i64 4, .string (mtx 5), .int .i64 6, .int .i64 7, .bool false, .string (mtx 9), .slice none 0 0, .bool false, .int .i64 11, .int .i64 12, .int .i64 13, .int .i64 14, .int .i64 15, .int .i64 16, .string (mtx 17), .int .i64 18, .int .i64 19, .bool false, .string (mtx 21), .slice none 0 0, .bool false, .int .i64 23, .int .i64 24]) : Calls Try.prog 24 #[.slice (some ⟨p, 0, none⟩) 2 2, .int .i64 1] w fun e w' => e = .returned (.int .i64 25) ∧ Below w.heap.size w w' := by
  have H := hid h
  clear h
  go_enter Try.func24, Try.ntmps24
  go_wp2
  go_loopg [1, 5] 2 (fun n y9 i wr => Hid (Below w.heap.size w wr) ∧ ((n = 2 ∧ i = .int .i64 0 ∧ y9 = .int .i64 1) ∨ (n = 1 ∧ i = .int .i64 1 ∧ y9 = .int .i64 13) ∨ (n = 0 ∧ i = .int .i64 2 ∧ y9 = .int .i64 25)))
  case atStart => exact ⟨(show Below _ _ _ from Below.refl _ _), Or.inl ⟨rfl, rfl, rfl⟩⟩
  case round =>
    obtain ⟨BR, hst⟩ := hrel
    rcases hst with ⟨hn, rfl, rfl⟩ | ⟨hn, rfl, rfl⟩ | ⟨hn, rfl, rfl⟩
    · have G0 := H.out.on BR.out H.out.lt
      have z0 := G0.cell (j := 0) rfl
      have z1 := G0.cell (j := 1) rfl
      have z2 := G0.cell (j := 2) rfl
      have z3 := G0.cell (j := 3) rfl
      have z4 := G0.cell (j := 4) rfl
      clear G0
      go_wp2
      have Xq := cell_regrown z4
      have Cq := hid (fun d os => Calls.regrown_of (w := wr) (d := d) (os := os) (markText_any 5 (by omega) _))
      clear z0 z1 z2 z3 z4
      refine wp_region_quiet_below (by kernel_rfl) (by kernel_rfl) ?_
      repeat (first | go_big_quiet_step (first | (go_at_call 31; exact Cq.out _ _) | fail) | quiet_step (first | (go_at_call 31; exact Cq.out _ _) | fail))
      refine wpQuiet_nil ?_
      intro _ hw'
      obtain ⟨⟨dq, osq⟩, hw''⟩ := hw'
      subst hw''
      have b3 := below_regrown wr dq osq
      generalize grow (redrawn wr dq) osq = ga at b3 ⊢
      have B1 := hid (below_via BR.out b3)
      clear Xq Cq b3
      have G1 := H.out.on B1.out H.out.lt
      have z5 := G1.cell (j := 5) rfl
      have z6 := G1.cell (j := 6) rfl
      have z7 := G1.cell (j := 7) rfl
      have z8 := G1.cell (j := 8) rfl
      clear G1
      go_wp2
      have Xq := cell_regrown z8
      have Cq := hid (fun d os => Calls.regrown_of (w := ga) (d := d) (os := os) (markText_any 9 (by omega) _))
      clear z5 z6 z7 z8
      refine wp_region_quiet_below (by kernel_rfl) (by kernel_rfl) ?_
      repeat (first | go_big_quiet_step (first | (go_at_call 31; exact Cq.out _ _) | fail) | quiet_step (first | (go_at_call 31; exact Cq.out _ _) | fail))
      refine wpQuiet_nil ?_
      intro _ hw'
      obtain ⟨⟨dq, osq⟩, hw''⟩ := hw'
      subst hw''
      have b3 := below_regrown ga dq osq
      generalize grow (redrawn ga dq) osq = gb at b3 ⊢
      have B2 := hid (below_via B1.out b3)
      clear Xq Cq b3
      have G2 := H.out.on B2.out H.out.lt
      have z9 := G2.cell (j := 9) rfl
      have z10 := G2.cell (j := 10) rfl
      have z11 := G2.cell (j := 11) rfl
      have z12 := G2.cell (j := 12) rfl
      clear G2
      go_wp2_with fail
      refine (heldLateS_nil none 0 10 _).mono ?_
      rintro e u9 ⟨rfl, hw9⟩
      rw [hw9]
      clear hw9 u9
      go_wp2
      go_roundg (gk - 1)
      case measure => omega
      case rel => exact ⟨B2, Or.inr (Or.inl ⟨by omega, rfl, rfl⟩)⟩
    · have G0 := H.out.on BR.out H.out.lt
      have z0 := G0.cell (j := 13) rfl
      have z1 := G0.cell (j := 14) rfl
      have z2 := G0.cell (j := 15) rfl
      have z3 := G0.cell (j := 16) rfl
      have z4 := G0.cell (j := 17) rfl
      clear G0
      go_wp2
      have Xq := cell_regrown z4
      have Cq := hid (fun d os => Calls.regrown_of (w := wr) (d := d) (os := os) (markText_any 17 (by omega) _))
      clear z0 z1 z2 z3 z4
      refine wp_region_quiet_below (by kernel_rfl) (by kernel_rfl) ?_
      repeat (first | go_big_quiet_step (first | (go_at_call 31; exact Cq.out _ _) | fail) | quiet_step (first | (go_at_call 31; exact Cq.out _ _) | fail))
      refine wpQuiet_nil ?_
      intro _ hw'
      obtain ⟨⟨dq, osq⟩, hw''⟩ := hw'
      subst hw''
      have b3 := below_regrown wr dq osq
      generalize grow (redrawn wr dq) osq = ga at b3 ⊢
      have B1 := hid (below_via BR.out b3)
      clear Xq Cq b3
      have G1 := H.out.on B1.out H.out.lt
      have z5 := G1.cell (j := 18) rfl
      have z6 := G1.cell (j := 19) rfl
      have z7 := G1.cell (j := 20) rfl
      have z8 := G1.cell (j := 21) rfl
      clear G1
      go_wp2
      have Xq := cell_regrown z8
      have Cq := hid (fun d os => Calls.regrown_of (w := ga) (d := d) (os := os) (markText_any 21 (by omega) _))
      clear z5 z6 z7 z8
      refine wp_region_quiet_below (by kernel_rfl) (by kernel_rfl) ?_
      repeat (first | go_big_quiet_step (first | (go_at_call 31; exact Cq.out _ _) | fail) | quiet_step (first | (go_at_call 31; exact Cq.out _ _) | fail))
      refine wpQuiet_nil ?_
      intro _ hw'
      obtain ⟨⟨dq, osq⟩, hw''⟩ := hw'
      subst hw''
      have b3 := below_regrown ga dq osq
      generalize grow (redrawn ga dq) osq = gb at b3 ⊢
      have B2 := hid (below_via B1.out b3)
      clear Xq Cq b3
      have G2 := H.out.on B2.out H.out.lt
      have z9 := G2.cell (j := 22) rfl
      have z10 := G2.cell (j := 23) rfl
      have z11 := G2.cell (j := 24) rfl
      have z12 := G2.cell (j := 25) rfl
      clear G2
      go_wp2_with fail
      refine (heldLateS_nil none 0 22 _).mono ?_
      rintro e u9 ⟨rfl, hw9⟩
      rw [hw9]
      clear hw9 u9
      go_wp2
      go_roundg (gk - 1)
      case measure => omega
      case rel => exact ⟨B2, Or.inr (Or.inr ⟨by omega, rfl, rfl⟩)⟩
    · go_wp2
      go_ret
      exact ⟨rfl, BR.out⟩
end Go.Proofs.Ythkkhmmcgjcedaa
