/-
  The walk of spec.NodeNew: what it answers.
-/
import Derived.Test.YteceaohhnjlmbaaJoint1
import Derived.Test.YteceaohhnjlmbaaJoint10
namespace Go.Proofs.Yteceaohhnjlmbaa
open Go.RowKit Go.Sort

set_option maxRecDepth 1000000 in
set_option maxHeartbeats 2000000 in
theorem specNodeNew_any (i : Int) (zs : List Int) (hl : zs.length ≤ 1048576) (b cc : Nat) (okb : Bool) (hok : nodeOk (newD i zs 20) = okb) (w : World) (hc : ∀ j (hj : j < zs.length), w.cell? ⟨b, 0 + j, none⟩ = some (.int .i64 zs[j])) :
    Calls Try.prog 11 #[.int .i64 i, .slice (some ⟨b, 0, none⟩) zs.length cc] w fun e w' => newDid okb (newI i zs) (newC i zs) (newL i zs) w e w' := by
  have hb1 := below_more (Below.refl w.heap.size w) (.cells #[.int .i64 0, .int .i64 0, .int .i64 0, .int .i64 0, .int .i64 0, .slice none 0 0, .int .i64 0, .int .i64 0, .slice none 0 0, .int .i64 0, .int .i64 0, .int .i64 0, .slice none 0 0, .slice none 0 0] 36)
  have r0 : BlockIs (w.alloc (.cells #[.int .i64 0, .int .i64 0, .int .i64 0, .int .i64 0, .int .i64 0, .slice none 0 0, .int .i64 0, .int .i64 0, .slice none 0 0, .int .i64 0, .int .i64 0, .int .i64 0, .slice none 0 0, .slice none 0 0] 36)) w.heap.size 36 [.int .i64 0, .int .i64 0, .int .i64 0, .int .i64 0, .int .i64 0, .slice none 0 0, .int .i64 0, .int .i64 0, .slice none 0 0, .int .i64 0, .int .i64 0, .int .i64 0, .slice none 0 0, .slice none 0 0] := heap_alloc_new w _
  obtain ⟨W, hW⟩ : ∃ W, w.alloc (.cells #[.int .i64 0, .int .i64 0, .int .i64 0, .int .i64 0, .int .i64 0, .slice none 0 0, .int .i64 0, .int .i64 0, .slice none 0 0, .int .i64 0, .int .i64 0, .int .i64 0, .slice none 0 0, .slice none 0 0] 36) = W := ⟨_, rfl⟩
  rw [hW] at hb1 r0
  have hlt : w.heap.size < W.heap.size := r0.lt
  have hb2 := below_more (Below.refl W.heap.size W) (.cells #[] 3)
  have G0 : (W.alloc (.cells #[] 3)).heap[W.heap.size]? = some (.cells #[] 3) := heap_alloc_new W _
  obtain ⟨W2, hW2⟩ : ∃ V, W.alloc (.cells #[] 3) = V := ⟨_, rfl⟩
  rw [hW2] at hb2 G0
  have N2 := hid (no_ints (base := w.heap.size) G0 (Nat.le_of_lt hlt))
  have B2 := hid (below_via hb1 hb2)
  have R2 := hid (r0.on hb2 r0.lt)
  have hs2 : w.heap.size ≤ W2.heap.size := B2.out.size
  have HC : Hid (∀ j (hj : j < zs.length), W2.cell? ⟨b, 0 + j, none⟩ = some (.int .i64 zs[j])) := fun j hj => (B2.out.cell (p := ⟨b, 0 + j, none⟩) (World.block_lt_of_cell? w _ (hc j hj))).trans (hc j hj)
  clear hb1 hb2 r0 hc G0
  go_enter Try.func11, Try.ntmps11
  go_wp2_with (first | (at_builtin; refine wpList_append_ints rfl (.tmp 8) (.tmp 9) rfl rfl (base := w.heap.size) (L := []) (zs := zs) rfl rfl rfl (by simp; omega) hs2 N2.out HC.out ?_; intro va vc w3 hro hgr; have KZ : BlockIs (w3.alloc (.cells #[.int .i64 0, .int .i64 0, .int .i64 0, .int .i64 0, .int .i64 0, .slice none 0 0, .int .i64 0, .int .i64 0, .slice none 0 0, .int .i64 0, .int .i64 0, .int .i64 0, .slice none 0 0, .slice none 0 0] 36)) w3.heap.size 36 [.int .i64 0, .int .i64 0, .int .i64 0, .int .i64 0, .int .i64 0, .slice none 0 0, .int .i64 0, .int .i64 0, .slice none 0 0, .int .i64 0, .int .i64 0, .int .i64 0, .slice none 0 0, .slice none 0 0] := heap_alloc_new w3 _; obtain ⟨U3, hU3⟩ : ∃ V, w3.alloc (.cells #[.int .i64 0, .int .i64 0, .int .i64 0, .int .i64 0, .int .i64 0, .slice none 0 0, .int .i64 0, .int .i64 0, .slice none 0 0, .int .i64 0, .int .i64 0, .int .i64 0, .slice none 0 0, .slice none 0 0] 36) = V := ⟨_, rfl⟩; rw [hU3] at KZ; obtain ⟨V3, hV3⟩ : ∃ V, U3.setRow w3.heap.size #[.int .i64 i, .int .i64 0, .int .i64 0, .int .i64 0, .int .i64 0, .slice va zs.length vc, .int .i64 0, .int .i64 0, .slice none 0 0, .int .i64 0, .int .i64 0, .int .i64 20, .slice none 0 0, .slice none 0 0] = V := ⟨_, rfl⟩; have X3 : BlockIs V3 w3.heap.size 36 [.int .i64 i, .int .i64 0, .int .i64 0, .int .i64 0, .int .i64 0, .slice va zs.length vc, .int .i64 0, .int .i64 0, .slice none 0 0, .int .i64 0, .int .i64 0, .int .i64 20, .slice none 0 0, .slice none 0 0] := (by rw [← hV3]; exact whole_block KZ _)) | (refine wpList_store_whole node_size KZ rfl rfl _ _ rfl _ rfl rfl rfl (by simp [Value.oneCell']) ?_; rw [hV3]) | (refine wpList_load_whole Try.underlying36 node_size X3 rfl rfl _ rfl rfl ?_) | fail)
  have hro' : w3.ownsRow w.heap.size 3 1 (.slice va zs.length vc) zs.length (intCells zs) := hro
  have R3 := row_grownN R2.out N2.out hgr (by decide)
  have B3 := B2.out.grown hgr B2.out.size (fun g q => by obtain ⟨_, _, hb⟩ := row_block N2.out q; exact hb)
  have hb3 : Below w3.heap.size w3 V3 := by rw [← hV3, ← hU3]; exact below_setRow (below_more (Below.refl _ _) _) (Nat.le_refl _) _
  have R4 := hid (R3.on hb3 R3.lt)
  have B4 := hid (below_via B3 hb3)
  have O4 := hid (row_ext hro' fun g cs h9 => h9.on hb3 h9.lt)
  have X4 := hid X3
  refine (specNodeOk_any (newD i zs 20) ⟨va, vc, none, 0, none, 0, none, 0⟩ (newD_small hl) V3 (newD_at (ints_row rfl O4.out))).mono ?_
  rw [hok]
  rintro e w5 ⟨rfl, hb⟩
  have X5 := hid (X4.out.on hb X4.out.lt)
  have R5 := hid (R4.out.on hb R4.out.lt)
  have B5 := hid (below_via B4.out hb)
  have O5 := hid (row_ext O4.out fun g cs h9 => h9.on hb h9.lt)
  clear hb X4 R4 B4 O4 X3 hro' hro hgr R3 B3 hb3 KZ hU3 hV3 N2 R2 B2 HC hW2
  cases okb with
  | false =>
    have hI : Hid (newI i zs = 0) := (show _ = _ by unfold newI; rw [hok]; rfl)
    have hC : Hid (newC i zs = []) := (show _ = _ by unfold newC; rw [hok]; rfl)
    have hL : Hid (newL i zs = 0) := (show _ = _ by unfold newL; rw [hok]; rfl)
    clear hok
    obtain ⟨VL, hVL⟩ : ∃ V, w5.setRow w.heap.size #[.int .i64 0, .int .i64 0, .int .i64 0, .int .i64 0, .int .i64 0, .slice none 0 0, .int .i64 0, .int .i64 0, .slice none 0 0, .int .i64 0, .int .i64 0, .int .i64 0, .slice none 0 0, .slice none 0 0] = V := ⟨_, rfl⟩
    have KL : BlockIs VL w.heap.size 36 [.int .i64 0, .int .i64 0, .int .i64 0, .int .i64 0, .int .i64 0, .slice none 0 0, .int .i64 0, .int .i64 0, .slice none 0 0, .int .i64 0, .int .i64 0, .int .i64 0, .slice none 0 0, .slice none 0 0] := by rw [← hVL]; exact whole_block R5.out _
    have BL : Hid (Below w.heap.size w VL) := by rw [← hVL]; exact below_setRow B5.out (Nat.le_refl _) _
    have r0 := KL.cell (j := 0) rfl
    have r1 := KL.cell (j := 1) rfl
    have r2 := KL.cell (j := 2) rfl
    have r3 := KL.cell (j := 3) rfl
    have r4 := KL.cell (j := 4) rfl
    have r5 := KL.cell (j := 5) rfl
    have r6 := KL.cell (j := 6) rfl
    have r7 := KL.cell (j := 7) rfl
    have r8 := KL.cell (j := 8) rfl
    have r9 := KL.cell (j := 9) rfl
    have r10 := KL.cell (j := 10) rfl
    have r11 := KL.cell (j := 11) rfl
    have r12 := KL.cell (j := 12) rfl
    have r13 := KL.cell (j := 13) rfl
    clear KL
    go_wp2_with (first | (refine wpList_load_whole Try.underlying36 node_size X5.out rfl rfl _ rfl rfl ?_) | (refine wpList_store_whole node_size R5.out rfl rfl _ _ rfl _ rfl rfl rfl (by simp [Value.oneCell']) ?_; rw [hVL]) | fail)
    refine bodyPost_ret (v := .tuple #[.agg #[.int .i64 0, .int .i64 0, .int .i64 0, .int .i64 0, .int .i64 0, .slice none 0 0, .int .i64 0, .int .i64 0, .slice none 0 0, .int .i64 0, .int .i64 0, .int .i64 0, .slice none 0 0, .slice none 0 0], .bool false]) (by simp [results, Try.results11, go_sem, r0, r1, r2, r3, r4, r5, r6, r7, r8, r9, r10, r11, r12, r13]) rfl ?_
    rw [hI.out, hC.out, hL.out]
    exact ⟨none, 0, none, 0, rfl, ⟨rfl, Or.inl ⟨rfl, rfl⟩⟩, BL.out⟩
  | true =>
    have hI : Hid (newI i zs = i) := (show _ = _ by unfold newI; rw [hok]; rfl)
    have hC : Hid (newC i zs = zs) := (show _ = _ by unfold newC; rw [hok]; rfl)
    have hL : Hid (newL i zs = 20) := (show _ = _ by unfold newL; rw [hok]; rfl)
    clear hok
    obtain ⟨VL, hVL⟩ : ∃ V, w5.setRow w.heap.size #[.int .i64 i, .int .i64 0, .int .i64 0, .int .i64 0, .int .i64 0, .slice va zs.length vc, .int .i64 0, .int .i64 0, .slice none 0 0, .int .i64 0, .int .i64 0, .int .i64 20, .slice none 0 0, .slice none 0 0] = V := ⟨_, rfl⟩
    have KL : BlockIs VL w.heap.size 36 [.int .i64 i, .int .i64 0, .int .i64 0, .int .i64 0, .int .i64 0, .slice va zs.length vc, .int .i64 0, .int .i64 0, .slice none 0 0, .int .i64 0, .int .i64 0, .int .i64 20, .slice none 0 0, .slice none 0 0] := by rw [← hVL]; exact whole_block R5.out _
    have BL : Hid (Below w.heap.size w VL) := by rw [← hVL]; exact below_setRow B5.out (Nat.le_refl _) _
    have OL : Hid (VL.ownsRow w.heap.size 3 1 (.slice va zs.length vc) zs.length (intCells zs)) := by rw [← hVL]; exact row_ext O5.out fun g cs h9 => whole_other h9 (by intro q; rw [← q] at h9; exact absurd (block_one h9 R5.out).1 (by decide)) _
    have r0 := KL.cell (j := 0) rfl
    have r1 := KL.cell (j := 1) rfl
    have r2 := KL.cell (j := 2) rfl
    have r3 := KL.cell (j := 3) rfl
    have r4 := KL.cell (j := 4) rfl
    have r5 := KL.cell (j := 5) rfl
    have r6 := KL.cell (j := 6) rfl
    have r7 := KL.cell (j := 7) rfl
    have r8 := KL.cell (j := 8) rfl
    have r9 := KL.cell (j := 9) rfl
    have r10 := KL.cell (j := 10) rfl
    have r11 := KL.cell (j := 11) rfl
    have r12 := KL.cell (j := 12) rfl
    have r13 := KL.cell (j := 13) rfl
    clear KL
    go_wp2_with (first | (refine wpList_load_whole Try.underlying36 node_size X5.out rfl rfl _ rfl rfl ?_) | (refine wpList_store_whole node_size R5.out rfl rfl _ _ rfl _ rfl rfl rfl (by simp [Value.oneCell']) ?_; rw [hVL]) | fail)
    refine bodyPost_ret (v := .tuple #[.agg #[.int .i64 i, .int .i64 0, .int .i64 0, .int .i64 0, .int .i64 0, .slice va zs.length vc, .int .i64 0, .int .i64 0, .slice none 0 0, .int .i64 0, .int .i64 0, .int .i64 20, .slice none 0 0, .slice none 0 0], .bool true]) (by simp [results, Try.results11, go_sem, r0, r1, r2, r3, r4, r5, r6, r7, r8, r9, r10, r11, r12, r13]) rfl ?_
    rw [hI.out, hC.out, hL.out]
    exact ⟨va, vc, none, 0, rfl, OL.out, BL.out⟩
end Go.Proofs.Yteceaohhnjlmbaa
