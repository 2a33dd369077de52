/-
  The walk of impl.copiedNode at a node without entries, votes and peers.
-/
import Derived.Test.YteceaohhnjlmbaaJoint1
import Derived.Test.YteceaohhnjlmbaaJoint12
import Derived.Test.YteceaohhnjlmbaaJoint14
namespace Go.Proofs
open Go.RowKit Go.Shelf
shelf_lay_g SlLaysE0.n41 Slgn 41 at Try 65 as Try.cloneP
end Go.Proofs
namespace Go.Proofs.Yteceaohhnjlmbaa
open Go.RowKit Go.Sort

set_option maxRecDepth 1000000 in
set_option maxHeartbeats 2000000 in
theorem copiedNew_any (i : Int) (zs : List Int) (hz : zs ≠ []) (hl : zs.length ≤ 1048576) (b cc : Nat) (w : World) (ha : IntsAt w (some ⟨b, 0, none⟩) zs) :
    Calls Try.prog 41 #[.agg #[.int .i64 i, .int .i64 0, .int .i64 0, .int .i64 0, .int .i64 0, .slice (some ⟨b, 0, none⟩) zs.length cc, .int .i64 0, .int .i64 0, .slice none 0 0, .int .i64 0, .int .i64 0, .int .i64 20, .slice none 0 0, .slice none 0 0]] w fun e w' => ∃ va vc g8, e = .returned (.agg #[.int .i64 i, .int .i64 0, .int .i64 0, .int .i64 0, .int .i64 0, .slice va zs.length vc, .int .i64 0, .int .i64 0, .slice (some ⟨g8, 0, none⟩) 0 0, .int .i64 0, .int .i64 0, .int .i64 20, .slice none 0 0, .slice none 0 0]) ∧ w'.ownsRow w.heap.size 3 1 (.slice va zs.length vc) zs.length (intCells zs) ∧ Below w.heap.size w w' := by
  have hb1 := below_more (Below.refl w.heap.size w) (.cells #[.int .i64 i, .int .i64 0, .int .i64 0, .int .i64 0, .int .i64 0, .slice (some ⟨b, 0, none⟩) zs.length cc, .int .i64 0, .int .i64 0, .slice none 0 0, .int .i64 0, .int .i64 0, .int .i64 20, .slice none 0 0, .slice none 0 0] 36)
  have x0 : BlockIs (w.alloc (.cells #[.int .i64 i, .int .i64 0, .int .i64 0, .int .i64 0, .int .i64 0, .slice (some ⟨b, 0, none⟩) zs.length cc, .int .i64 0, .int .i64 0, .slice none 0 0, .int .i64 0, .int .i64 0, .int .i64 20, .slice none 0 0, .slice none 0 0] 36)) w.heap.size 36 [.int .i64 i, .int .i64 0, .int .i64 0, .int .i64 0, .int .i64 0, .slice (some ⟨b, 0, none⟩) zs.length cc, .int .i64 0, .int .i64 0, .slice none 0 0, .int .i64 0, .int .i64 0, .int .i64 20, .slice none 0 0, .slice none 0 0] := heap_alloc_new w _
  obtain ⟨W, hW⟩ : ∃ W, w.alloc (.cells #[.int .i64 i, .int .i64 0, .int .i64 0, .int .i64 0, .int .i64 0, .slice (some ⟨b, 0, none⟩) zs.length cc, .int .i64 0, .int .i64 0, .slice none 0 0, .int .i64 0, .int .i64 0, .int .i64 20, .slice none 0 0, .slice none 0 0] 36) = W := ⟨_, rfl⟩
  rw [hW] at hb1 x0
  have hb2 := below_more (Below.refl W.heap.size W) (.cells #[.int .i64 0, .int .i64 0, .int .i64 0, .int .i64 0, .int .i64 0, .slice none 0 0, .int .i64 0, .int .i64 0, .slice none 0 0, .int .i64 0, .int .i64 0, .int .i64 0, .slice none 0 0, .slice none 0 0] 36)
  have r0 : BlockIs (W.alloc (.cells #[.int .i64 0, .int .i64 0, .int .i64 0, .int .i64 0, .int .i64 0, .slice none 0 0, .int .i64 0, .int .i64 0, .slice none 0 0, .int .i64 0, .int .i64 0, .int .i64 0, .slice none 0 0, .slice none 0 0] 36)) W.heap.size 36 [.int .i64 0, .int .i64 0, .int .i64 0, .int .i64 0, .int .i64 0, .slice none 0 0, .int .i64 0, .int .i64 0, .slice none 0 0, .int .i64 0, .int .i64 0, .int .i64 0, .slice none 0 0, .slice none 0 0] := heap_alloc_new W _
  have hlt : w.heap.size < W.heap.size := x0.lt
  obtain ⟨W2, hW2⟩ : ∃ V, W.alloc (.cells #[.int .i64 0, .int .i64 0, .int .i64 0, .int .i64 0, .int .i64 0, .slice none 0 0, .int .i64 0, .int .i64 0, .slice none 0 0, .int .i64 0, .int .i64 0, .int .i64 0, .slice none 0 0, .slice none 0 0] 36) = V := ⟨_, rfl⟩
  rw [hW2] at hb2 r0
  have X0 := hid (x0.on hb2 x0.lt)
  have R0 := hid r0
  have B0 := hid (below_via hb1 hb2)
  have C1 := hid (cloneInts_any (some ⟨b, 0, none⟩) cc zs hz hl W2 (ha.on B0.out))
  have C2 := hid (fun w => copiedEntries_any none [] 0 (by simp) (fun f hf => by cases hf) w (fun q => absurd rfl q))
  have C3 := hid (fun w => AnyE.slices_Clone_nil Try.cloneN 0 0 w)
  have C4 := hid (fun w => AnyE.slices_Clone_nil Try.cloneP 0 0 w)
  have c5 := X0.out.cell (j := 5) rfl
  clear ha hb1 hb2 x0 r0
  go_enter Try.func41, Try.ntmps41
  go_wp2_with fail
  refine C1.out.mono ?_
  rintro e w1 ⟨va, vc, rfl, ho, hb⟩
  have X1 := X0.out.on hb X0.out.lt
  have R1 := R0.out.on hb R0.out.lt
  have B1 := below_via B0.out hb
  have O1 : w1.ownsRow w.heap.size 3 1 (.slice va zs.length vc) zs.length (intCells zs) := row_down ho B0.out.size
  have f5 := X1.thaw 5
  have k5 := X1.cell (j := 5) rfl
  have X2 := hid (X1.set 5 (.slice va zs.length vc))
  have R2 := hid (R1.far (b := w.heap.size) (j := 5) (by omega) (.slice va zs.length vc))
  have B2 := hid (B1.setCell (p := ⟨w.heap.size, 5, none⟩) (Nat.le_refl _) (.slice va zs.length vc))
  have O2 := hid (row_ext O1 fun g cs h9 => h9.far (by intro q; rw [← q] at h9; exact absurd (block_one h9 X1).1 (by decide)) (.slice va zs.length vc) (b := w.heap.size) (j := 5))
  obtain ⟨V1, hV1⟩ : ∃ V, w1.setCell ⟨w.heap.size, 5, none⟩ (.slice va zs.length vc) = V := ⟨_, rfl⟩
  rw [hV1] at X2 R2 B2 O2
  have c8 := X2.out.cell (j := 8) rfl
  clear X1 R1 B1 O1 ho hb C1 c5 X0 R0 B0
  go_wp2_with fail
  refine (C2.out _).mono ?_
  rintro e w3 ⟨rfl, _, hb⟩
  obtain ⟨g8, hg8⟩ : ∃ g, V1.heap.size = g := ⟨_, rfl⟩
  rw [hg8]
  have X3 := X2.out.on hb X2.out.lt
  have R3 := R2.out.on hb R2.out.lt
  have B3 := below_via B2.out hb
  have O3 := row_ext O2.out fun g cs h9 => h9.on hb h9.lt
  have k8 := X3.cell (j := 8) rfl
  have f8 := X3.thaw 8
  have X4 := hid (X3.set 8 (.slice (some ⟨g8, 0, none⟩) 0 0))
  have R4 := hid (R3.far (b := w.heap.size) (j := 8) (by omega) (.slice (some ⟨g8, 0, none⟩) 0 0))
  have B4 := hid (B3.setCell (p := ⟨w.heap.size, 8, none⟩) (Nat.le_refl _) (.slice (some ⟨g8, 0, none⟩) 0 0))
  have O4 := hid (row_ext O3 fun g cs h9 => h9.far (by intro q; rw [← q] at h9; exact absurd (block_one h9 X3).1 (by decide)) (.slice (some ⟨g8, 0, none⟩) 0 0) (b := w.heap.size) (j := 8))
  obtain ⟨V3, hV3⟩ : ∃ V, w3.setCell ⟨w.heap.size, 8, none⟩ (.slice (some ⟨g8, 0, none⟩) 0 0) = V := ⟨_, rfl⟩
  rw [hV3] at X4 R4 B4 O4
  have c12 := X4.out.cell (j := 12) rfl
  clear X3 R3 B3 O3 hb C2 c8 X2 R2 B2 O2 hg8
  go_wp2_with fail
  refine (C3.out _).mono ?_
  rintro e w5 ⟨rfl, hw⟩
  rw [hw]
  clear hw w5
  have f12 := X4.out.thaw 12
  have X5 := hid (X4.out.set 12 (.slice none 0 0))
  have R5 := hid (R4.out.far (b := w.heap.size) (j := 12) (by omega) (.slice none 0 0))
  have B5 := hid (B4.out.setCell (p := ⟨w.heap.size, 12, none⟩) (Nat.le_refl _) (.slice none 0 0))
  have O5 := hid (row_ext O4.out fun g cs h9 => h9.far (by intro q; rw [← q] at h9; exact absurd (block_one h9 X4.out).1 (by decide)) (.slice none 0 0) (b := w.heap.size) (j := 12))
  obtain ⟨V5, hV5⟩ : ∃ V, V3.setCell ⟨w.heap.size, 12, none⟩ (.slice none 0 0) = V := ⟨_, rfl⟩
  rw [hV5] at X5 R5 B5 O5
  have c13 := X5.out.cell (j := 13) rfl
  clear C3 X4 R4 B4 O4
  go_wp2_with fail
  refine (C4.out _).mono ?_
  rintro e w6 ⟨rfl, hw⟩
  rw [hw]
  clear hw w6
  have f13 := X5.out.thaw 13
  have X6 := hid (X5.out.set 13 (.slice none 0 0))
  have R6 := hid (R5.out.far (b := w.heap.size) (j := 13) (by omega) (.slice none 0 0))
  have B6 := hid (B5.out.setCell (p := ⟨w.heap.size, 13, none⟩) (Nat.le_refl _) (.slice none 0 0))
  have O6 := hid (row_ext O5.out fun g cs h9 => h9.far (by intro q; rw [← q] at h9; exact absurd (block_one h9 X5.out).1 (by decide)) (.slice none 0 0) (b := w.heap.size) (j := 13))
  obtain ⟨V6, hV6⟩ : ∃ V, V5.setCell ⟨w.heap.size, 13, none⟩ (.slice none 0 0) = V := ⟨_, rfl⟩
  rw [hV6] at X6 R6 B6 O6
  have XL : Hid (BlockIs V6 w.heap.size 36 [.int .i64 i, .int .i64 0, .int .i64 0, .int .i64 0, .int .i64 0, .slice va zs.length vc, .int .i64 0, .int .i64 0, .slice (some ⟨g8, 0, none⟩) 0 0, .int .i64 0, .int .i64 0, .int .i64 20, .slice none 0 0, .slice none 0 0]) := X6.out
  clear C4 X5 R5 B5 O5 X6
  obtain ⟨VL, hVL⟩ : ∃ V, V6.setRow W.heap.size #[.int .i64 i, .int .i64 0, .int .i64 0, .int .i64 0, .int .i64 0, .slice va zs.length vc, .int .i64 0, .int .i64 0, .slice (some ⟨g8, 0, none⟩) 0 0, .int .i64 0, .int .i64 0, .int .i64 20, .slice none 0 0, .slice none 0 0] = V := ⟨_, rfl⟩
  have KL : BlockIs VL W.heap.size 36 [.int .i64 i, .int .i64 0, .int .i64 0, .int .i64 0, .int .i64 0, .slice va zs.length vc, .int .i64 0, .int .i64 0, .slice (some ⟨g8, 0, none⟩) 0 0, .int .i64 0, .int .i64 0, .int .i64 20, .slice none 0 0, .slice none 0 0] := by rw [← hVL]; exact whole_block R6.out _
  have BL : Hid (Below w.heap.size w VL) := by rw [← hVL]; exact below_setRow B6.out (by omega) _
  have OL : Hid (VL.ownsRow w.heap.size 3 1 (.slice va zs.length vc) zs.length (intCells zs)) := by rw [← hVL]; exact row_ext O6.out fun g cs h9 => whole_other h9 (by intro q; rw [← q] at h9; exact absurd (block_one h9 R6.out).1 (by decide)) _
  have r0 := KL.cell (j := 0) rfl
  have r1 := KL.cell (j := 1) rfl
  have r2 := KL.cell (j := 2) rfl
  have r3 := KL.cell (j := 3) rfl
  have r4 := KL.cell (j := 4) rfl
  have r5 := KL.cell (j := 5) rfl
  have r6 := KL.cell (j := 6) rfl
  have r7 := KL.cell (j := 7) rfl
  have r8 := KL.cell (j := 8) rfl
  have r9 := KL.cell (j := 9) rfl
  have r10 := KL.cell (j := 10) rfl
  have r11 := KL.cell (j := 11) rfl
  have r12 := KL.cell (j := 12) rfl
  have r13 := KL.cell (j := 13) rfl
  clear KL
  go_wp2_with (first | (refine wpList_load_whole Try.underlying36 node_size XL.out rfl rfl _ rfl rfl ?_) | (refine wpList_store_whole node_size R6.out rfl rfl _ _ rfl _ rfl rfl rfl (by simp [Value.oneCell']) ?_; rw [hVL]) | fail)
  refine bodyPost_ret (v := .agg #[.int .i64 i, .int .i64 0, .int .i64 0, .int .i64 0, .int .i64 0, .slice va zs.length vc, .int .i64 0, .int .i64 0, .slice (some ⟨g8, 0, none⟩) 0 0, .int .i64 0, .int .i64 0, .int .i64 20, .slice none 0 0, .slice none 0 0]) (by simp [results, Try.results41, go_sem, r0, r1, r2, r3, r4, r5, r6, r7, r8, r9, r10, r11, r12, r13]) rfl ⟨va, vc, g8, rfl, OL.out, BL.out⟩
end Go.Proofs.Yteceaohhnjlmbaa
