/-
  The walk of impl.NodeNew: what it answers.
-/
import Derived.Test.YteceaohhnjlmbaaJoint15
import Derived.Test.YteceaohhnjlmbaaJoint30
import Derived.Test.YteceaohhnjlmbaaJoint1
namespace Go.Proofs.Yteceaohhnjlmbaa
open Go.RowKit Go.Sort

set_option maxRecDepth 1000000 in
set_option maxHeartbeats 2000000 in
theorem implNodeNew_any (i : Int) (zs : List Int) (hl : zs.length ≤ 1048576) (b cc : Nat) (okb : Bool) (hok : nodeOk (newD i zs 20) = okb) (w : World) (ha : IntsAt w (some ⟨b, 0, none⟩) zs) :
    Calls Try.prog 13 #[.int .i64 i, .slice (some ⟨b, 0, none⟩) zs.length cc] w fun e w' => newDid okb (newI i zs) (newC i zs) (newL i zs) w e w' := by
  have h2 := two_blocks w (.cells #[.int .i64 0, .int .i64 0, .int .i64 0, .int .i64 0, .int .i64 0, .slice none 0 0, .int .i64 0, .int .i64 0, .slice none 0 0, .int .i64 0, .int .i64 0, .int .i64 0, .slice none 0 0, .slice none 0 0] 36) (.cells #[.int .i64 0, .int .i64 0, .int .i64 0, .int .i64 0, .int .i64 0, .slice none 0 0, .int .i64 0, .int .i64 0, .slice none 0 0, .int .i64 0, .int .i64 0, .int .i64 0, .slice none 0 0, .slice none 0 0] 36)
  obtain ⟨W2, hW2⟩ : ∃ V, (w.alloc (.cells #[.int .i64 0, .int .i64 0, .int .i64 0, .int .i64 0, .int .i64 0, .slice none 0 0, .int .i64 0, .int .i64 0, .slice none 0 0, .int .i64 0, .int .i64 0, .int .i64 0, .slice none 0 0, .slice none 0 0] 36)).alloc (.cells #[.int .i64 0, .int .i64 0, .int .i64 0, .int .i64 0, .int .i64 0, .slice none 0 0, .int .i64 0, .int .i64 0, .slice none 0 0, .int .i64 0, .int .i64 0, .int .i64 0, .slice none 0 0, .slice none 0 0] 36) = V := ⟨_, rfl⟩
  rw [hW2] at h2
  have R2 : BlockIs W2 w.heap.size 36 [.int .i64 0, .int .i64 0, .int .i64 0, .int .i64 0, .int .i64 0, .slice none 0 0, .int .i64 0, .int .i64 0, .slice none 0 0, .int .i64 0, .int .i64 0, .int .i64 0, .slice none 0 0, .slice none 0 0] := h2.2.2.1
  have KZ : BlockIs W2 (w.heap.size + 1) 36 [.int .i64 0, .int .i64 0, .int .i64 0, .int .i64 0, .int .i64 0, .slice none 0 0, .int .i64 0, .int .i64 0, .slice none 0 0, .int .i64 0, .int .i64 0, .int .i64 0, .slice none 0 0, .slice none 0 0] := h2.2.2.2
  obtain ⟨V2, hV2⟩ : ∃ V, W2.setRow (w.heap.size + 1) #[.int .i64 i, .int .i64 0, .int .i64 0, .int .i64 0, .int .i64 0, .slice (some ⟨b, 0, none⟩) zs.length cc, .int .i64 0, .int .i64 0, .slice none 0 0, .int .i64 0, .int .i64 0, .int .i64 20, .slice none 0 0, .slice none 0 0] = V := ⟨_, rfl⟩
  have X2 : Hid (BlockIs V2 (w.heap.size + 1) 36 [.int .i64 i, .int .i64 0, .int .i64 0, .int .i64 0, .int .i64 0, .slice (some ⟨b, 0, none⟩) zs.length cc, .int .i64 0, .int .i64 0, .slice none 0 0, .int .i64 0, .int .i64 0, .int .i64 20, .slice none 0 0, .slice none 0 0]) := by rw [← hV2]; exact whole_block KZ _
  have R3 : Hid (BlockIs V2 w.heap.size 36 [.int .i64 0, .int .i64 0, .int .i64 0, .int .i64 0, .int .i64 0, .slice none 0 0, .int .i64 0, .int .i64 0, .slice none 0 0, .int .i64 0, .int .i64 0, .int .i64 0, .slice none 0 0, .slice none 0 0]) := by rw [← hV2]; exact whole_other R2 (by omega) _
  have B3 : Hid (Below w.heap.size w V2) := by rw [← hV2]; exact below_setRow h2.1 (by omega) _
  have HA := hid ha
  have CO' := implNodeOk_any (newD i zs 20) ⟨some ⟨b, 0, none⟩, cc, none, 0, none, 0, none, 0⟩ (newD_small hl) V2 (newD_at (ha.on B3.out))
  rw [hok] at CO'
  have CO := hid CO'
  clear CO' ha h2 R2
  go_enter Try.func13, Try.ntmps13
  go_wp2_with (first | (refine wpList_load_whole Try.underlying36 node_size X2.out rfl rfl _ rfl rfl ?_) | (refine wpList_store_whole node_size KZ rfl rfl _ _ rfl _ rfl rfl rfl (by simp [Value.oneCell']) ?_; rw [hV2]) | fail)
  refine CO.out.mono ?_
  rintro e w4 ⟨rfl, hb⟩
  have X4 := hid (X2.out.on hb X2.out.lt)
  have R4 := hid (R3.out.on hb R3.out.lt)
  have B4 := hid (below_via B3.out hb)
  clear hb CO X2 R3 B3 KZ hW2 hV2
  cases okb with
  | false =>
    have hI : Hid (newI i zs = 0) := (show _ = _ by unfold newI; rw [hok]; rfl)
    have hC : Hid (newC i zs = []) := (show _ = _ by unfold newC; rw [hok]; rfl)
    have hL : Hid (newL i zs = 0) := (show _ = _ by unfold newL; rw [hok]; rfl)
    clear hok
    obtain ⟨VL, hVL⟩ : ∃ V, w4.setRow w.heap.size #[.int .i64 0, .int .i64 0, .int .i64 0, .int .i64 0, .int .i64 0, .slice none 0 0, .int .i64 0, .int .i64 0, .slice none 0 0, .int .i64 0, .int .i64 0, .int .i64 0, .slice none 0 0, .slice none 0 0] = V := ⟨_, rfl⟩
    have KL : BlockIs VL w.heap.size 36 [.int .i64 0, .int .i64 0, .int .i64 0, .int .i64 0, .int .i64 0, .slice none 0 0, .int .i64 0, .int .i64 0, .slice none 0 0, .int .i64 0, .int .i64 0, .int .i64 0, .slice none 0 0, .slice none 0 0] := by rw [← hVL]; exact whole_block R4.out _
    have BL : Hid (Below w.heap.size w VL) := by rw [← hVL]; exact below_setRow B4.out (Nat.le_refl _) _
    have r0 := KL.cell (j := 0) rfl
    have r1 := KL.cell (j := 1) rfl
    have r2 := KL.cell (j := 2) rfl
    have r3 := KL.cell (j := 3) rfl
    have r4 := KL.cell (j := 4) rfl
    have r5 := KL.cell (j := 5) rfl
    have r6 := KL.cell (j := 6) rfl
    have r7 := KL.cell (j := 7) rfl
    have r8 := KL.cell (j := 8) rfl
    have r9 := KL.cell (j := 9) rfl
    have r10 := KL.cell (j := 10) rfl
    have r11 := KL.cell (j := 11) rfl
    have r12 := KL.cell (j := 12) rfl
    have r13 := KL.cell (j := 13) rfl
    clear KL
    go_wp2_with (first | (refine wpList_load_whole Try.underlying36 node_size X4.out rfl rfl _ rfl rfl ?_) | (refine wpList_store_whole node_size R4.out rfl rfl _ _ rfl _ rfl rfl rfl (by simp [Value.oneCell']) ?_; rw [hVL]) | fail)
    refine bodyPost_ret (v := .tuple #[.agg #[.int .i64 0, .int .i64 0, .int .i64 0, .int .i64 0, .int .i64 0, .slice none 0 0, .int .i64 0, .int .i64 0, .slice none 0 0, .int .i64 0, .int .i64 0, .int .i64 0, .slice none 0 0, .slice none 0 0], .bool false]) (by simp [results, Try.results13, go_sem, r0, r1, r2, r3, r4, r5, r6, r7, r8, r9, r10, r11, r12, r13]) rfl ?_
    rw [hI.out, hC.out, hL.out]
    exact ⟨none, 0, none, 0, rfl, ⟨rfl, Or.inl ⟨rfl, rfl⟩⟩, BL.out⟩
  | true =>
    have hI : Hid (newI i zs = i) := (show _ = _ by unfold newI; rw [hok]; rfl)
    have hC : Hid (newC i zs = zs) := (show _ = _ by unfold newC; rw [hok]; rfl)
    have hL : Hid (newL i zs = 20) := (show _ = _ by unfold newL; rw [hok]; rfl)
    have CC := hid (copiedNew_any i zs (new_conf hok) hl b cc w4 (HA.out.on B4.out))
    clear hok
    go_wp2_with (first | (refine wpList_load_whole Try.underlying36 node_size X4.out rfl rfl _ rfl rfl ?_) | fail)
    refine CC.out.mono ?_
    rintro e w5 ⟨va, vc, g8, rfl, ho, hb⟩
    have R5 := hid (R4.out.on hb R4.out.lt)
    have B5 := hid (below_via B4.out hb)
    have O5 := hid (row_down ho B4.out.size)
    clear ho hb CC X4 R4 B4
    obtain ⟨VL, hVL⟩ : ∃ V, w5.setRow w.heap.size #[.int .i64 i, .int .i64 0, .int .i64 0, .int .i64 0, .int .i64 0, .slice va zs.length vc, .int .i64 0, .int .i64 0, .slice (some ⟨g8, 0, none⟩) 0 0, .int .i64 0, .int .i64 0, .int .i64 20, .slice none 0 0, .slice none 0 0] = V := ⟨_, rfl⟩
    have KL : BlockIs VL w.heap.size 36 [.int .i64 i, .int .i64 0, .int .i64 0, .int .i64 0, .int .i64 0, .slice va zs.length vc, .int .i64 0, .int .i64 0, .slice (some ⟨g8, 0, none⟩) 0 0, .int .i64 0, .int .i64 0, .int .i64 20, .slice none 0 0, .slice none 0 0] := by rw [← hVL]; exact whole_block R5.out _
    have BL : Hid (Below w.heap.size w VL) := by rw [← hVL]; exact below_setRow B5.out (Nat.le_refl _) _
    have OL : Hid (VL.ownsRow w.heap.size 3 1 (.slice va zs.length vc) zs.length (intCells zs)) := by rw [← hVL]; exact row_ext O5.out fun g cs h9 => whole_other h9 (by intro q; rw [← q] at h9; exact absurd (block_one h9 R5.out).1 (by decide)) _
    have r0 := KL.cell (j := 0) rfl
    have r1 := KL.cell (j := 1) rfl
    have r2 := KL.cell (j := 2) rfl
    have r3 := KL.cell (j := 3) rfl
    have r4 := KL.cell (j := 4) rfl
    have r5 := KL.cell (j := 5) rfl
    have r6 := KL.cell (j := 6) rfl
    have r7 := KL.cell (j := 7) rfl
    have r8 := KL.cell (j := 8) rfl
    have r9 := KL.cell (j := 9) rfl
    have r10 := KL.cell (j := 10) rfl
    have r11 := KL.cell (j := 11) rfl
    have r12 := KL.cell (j := 12) rfl
    have r13 := KL.cell (j := 13) rfl
    clear KL
    go_wp2_with (first | (refine wpList_store_whole node_size R5.out rfl rfl _ _ rfl _ rfl rfl rfl (by simp [Value.oneCell']) ?_; rw [hVL]) | fail)
    refine bodyPost_ret (v := .tuple #[.agg #[.int .i64 i, .int .i64 0, .int .i64 0, .int .i64 0, .int .i64 0, .slice va zs.length vc, .int .i64 0, .int .i64 0, .slice (some ⟨g8, 0, none⟩) 0 0, .int .i64 0, .int .i64 0, .int .i64 20, .slice none 0 0, .slice none 0 0], .bool true]) (by simp [results, Try.results13, go_sem, r0, r1, r2, r3, r4, r5, r6, r7, r8, r9, r10, r11, r12, r13]) rfl ?_
    rw [hI.out, hC.out, hL.out]
    exact ⟨va, vc, some ⟨g8, 0, none⟩, 0, rfl, OL.out, BL.out⟩
end Go.Proofs.Yteceaohhnjlmbaa
