/-
  The walks of impl's entryLetter and chunkLetter.
  The walk of impl.MessageOk: what it answers.
-/
import Derived.Test.YtohmfmajgehadaaGreatDoorJoint36
import Derived.Test.YtohmfmajgehadaaGreatDoorJoint1
import Derived.Deep.QuietTactic
import Derived.BigQuiet
import Derived.Lib.QuietBelow
import Derived.Test.YtohmfmajgehadaaGreatDoorRows
namespace Go.Proofs.YtohmfmajgehadaaGreatDoor
open Go.RowKit

set_option maxRecDepth 1000000 in
set_option maxHeartbeats 4000000 in
theorem entryLetter_any (d : MsgD) (ao : Option Addr) (ac : Nat) (bo : Option Addr) (bc : Nat) (w : World) :
    Calls Tryz.prog 43 #[.agg #[.int .i64 d.kind, .int .i64 d.src, .int .i64 d.dst, .int .i64 d.term, .int .i64 d.index, .int .i64 d.logTerm, .int .i64 d.commit, .bool d.ok, .slice ao d.ents.length ac, .slice bo d.conf.length bc, .string d.data, .bool d.last]] w fun e w' => e = .returned (.agg #[.int .i64 d.kind, .int .i64 d.src, .int .i64 d.dst, .int .i64 d.term, .int .i64 d.index, .int .i64 d.logTerm, .int .i64 d.commit, .bool d.ok, .slice none 0 0, .slice bo d.conf.length bc, .string d.data, .bool d.last, .slice ao d.ents.length ac]) ∧ Below w.heap.size w w' := by
  obtain ⟨U0, hU0⟩ : ∃ V, (w.alloc (.cells #[.int .i64 d.kind, .int .i64 d.src, .int .i64 d.dst, .int .i64 d.term, .int .i64 d.index, .int .i64 d.logTerm, .int .i64 d.commit, .bool d.ok, .slice ao d.ents.length ac, .slice bo d.conf.length bc, .string d.data, .bool d.last] 39)).alloc (.cells #[.int .i64 0, .int .i64 0, .int .i64 0, .int .i64 0, .int .i64 0, .int .i64 0, .int .i64 0, .bool false, .slice none 0 0, .slice none 0 0, .string ⟨#[]⟩, .bool false, .slice none 0 0] 95) = V := ⟨_, rfl⟩
  have hu : U0.heap.size = w.heap.size + 1 + 1 := by rw [← hU0]; simp [World.alloc, -World.alloc_eq]
  obtain ⟨hb0, hx1, hx2, hx3⟩ := four_log w (.cells #[.int .i64 d.kind, .int .i64 d.src, .int .i64 d.dst, .int .i64 d.term, .int .i64 d.index, .int .i64 d.logTerm, .int .i64 d.commit, .bool d.ok, .slice ao d.ents.length ac, .slice bo d.conf.length bc, .string d.data, .bool d.last] 39) (.cells #[.int .i64 0, .int .i64 0, .int .i64 0, .int .i64 0, .int .i64 0, .int .i64 0, .int .i64 0, .bool false, .slice none 0 0, .slice none 0 0, .string ⟨#[]⟩, .bool false, .slice none 0 0] 95) (.cells #[.slice none 0 0] 93)
  have M0 : BlockIs U0 w.heap.size 39 [.int .i64 d.kind, .int .i64 d.src, .int .i64 d.dst, .int .i64 d.term, .int .i64 d.index, .int .i64 d.logTerm, .int .i64 d.commit, .bool d.ok, .slice ao d.ents.length ac, .slice bo d.conf.length bc, .string d.data, .bool d.last] := by
    rw [← hU0]
    show ((w.heap.push _).push _)[w.heap.size]? = some _
    rw [Array.getElem?_push, if_neg (by simp), Array.getElem?_push, if_pos rfl]
  have u0 := M0.cell (j := 0) rfl
  have u1 := M0.cell (j := 1) rfl
  have u2 := M0.cell (j := 2) rfl
  have u3 := M0.cell (j := 3) rfl
  have u4 := M0.cell (j := 4) rfl
  have u5 := M0.cell (j := 5) rfl
  have u6 := M0.cell (j := 6) rfl
  have u7 := M0.cell (j := 7) rfl
  have u8 := M0.cell (j := 8) rfl
  have u9 := M0.cell (j := 9) rfl
  have u10 := M0.cell (j := 10) rfl
  have u11 := M0.cell (j := 11) rfl
  clear M0
  rw [hU0] at hb0 hx1 hx2 hx3
  obtain ⟨W0, hW0⟩ : ∃ V, U0.alloc (.cells #[.slice none 0 0] 93) = V := ⟨_, rfl⟩
  rw [hW0] at hb0 hx1 hx2 hx3
  have K1_0 := hid (show BlockIs W0 w.heap.size 39 [.int .i64 d.kind, .int .i64 d.src, .int .i64 d.dst, .int .i64 d.term, .int .i64 d.index, .int .i64 d.logTerm, .int .i64 d.commit, .bool d.ok, .slice ao d.ents.length ac, .slice bo d.conf.length bc, .string d.data, .bool d.last] from hx1)
  have K2_0 := hid (show BlockIs W0 (w.heap.size + 1) 95 [.int .i64 0, .int .i64 0, .int .i64 0, .int .i64 0, .int .i64 0, .int .i64 0, .int .i64 0, .bool false, .slice none 0 0, .slice none 0 0, .string ⟨#[]⟩, .bool false, .slice none 0 0] from hx2)
  have K3_0 := hid (show BlockIs W0 (w.heap.size + 1 + 1) 93 [.slice none 0 0] from hx3)
  have B_0 := hid hb0
  have hs0 : w.heap.size + 1 + 1 < W0.heap.size := K3_0.out.lt
  clear hb0 hx1 hx2 hx3
  have o0 := K3_0.out.cell (j := 0) rfl
  have f0 := K3_0.out.thaw 0
  obtain ⟨V0, hV0⟩ : ∃ V, W0.setCell ⟨w.heap.size + 1 + 1, 0, none⟩ (.slice ao d.ents.length ac) = V := ⟨_, rfl⟩
  have K1_1 : Hid (BlockIs V0 (w.heap.size) 39 [.int .i64 d.kind, .int .i64 d.src, .int .i64 d.dst, .int .i64 d.term, .int .i64 d.index, .int .i64 d.logTerm, .int .i64 d.commit, .bool d.ok, .slice ao d.ents.length ac, .slice bo d.conf.length bc, .string d.data, .bool d.last]) := by rw [← hV0]; exact K1_0.out.far (by omega) _
  have K2_1 : Hid (BlockIs V0 (w.heap.size + 1) 95 [.int .i64 0, .int .i64 0, .int .i64 0, .int .i64 0, .int .i64 0, .int .i64 0, .int .i64 0, .bool false, .slice none 0 0, .slice none 0 0, .string ⟨#[]⟩, .bool false, .slice none 0 0]) := by rw [← hV0]; exact K2_0.out.far (by omega) _
  have K3_1 : Hid (BlockIs V0 (w.heap.size + 1 + 1) 93 [.slice ao d.ents.length ac]) := by rw [← hV0]; exact K3_0.out.set 0 _
  have B_1 : Hid (Below w.heap.size w V0) := by rw [← hV0]; exact B_0.out.setCell (by show _ ≤ _ + 1 + 1; omega) _
  clear K1_0 K2_0 K3_0 B_0
  have o1 := K1_1.out.cell (j := 8) rfl
  have f1 := K1_1.out.thaw 8
  obtain ⟨V1, hV1⟩ : ∃ V, V0.setCell ⟨w.heap.size, 8, none⟩ (.slice none 0 0) = V := ⟨_, rfl⟩
  have K1_2 : Hid (BlockIs V1 (w.heap.size) 39 [.int .i64 d.kind, .int .i64 d.src, .int .i64 d.dst, .int .i64 d.term, .int .i64 d.index, .int .i64 d.logTerm, .int .i64 d.commit, .bool d.ok, .slice none 0 0, .slice bo d.conf.length bc, .string d.data, .bool d.last]) := by rw [← hV1]; exact K1_1.out.set 8 _
  have K2_2 : Hid (BlockIs V1 (w.heap.size + 1) 95 [.int .i64 0, .int .i64 0, .int .i64 0, .int .i64 0, .int .i64 0, .int .i64 0, .int .i64 0, .bool false, .slice none 0 0, .slice none 0 0, .string ⟨#[]⟩, .bool false, .slice none 0 0]) := by rw [← hV1]; exact K2_1.out.far (by omega) _
  have K3_2 : Hid (BlockIs V1 (w.heap.size + 1 + 1) 93 [.slice ao d.ents.length ac]) := by rw [← hV1]; exact K3_1.out.far (by omega) _
  have B_2 : Hid (Below w.heap.size w V1) := by rw [← hV1]; exact B_1.out.setCell (Nat.le_refl _) _
  clear K1_1 K2_1 K3_1 B_1
  obtain ⟨VL, hVL⟩ : ∃ V, V1.setRow (w.heap.size + 1) #[.int .i64 d.kind, .int .i64 d.src, .int .i64 d.dst, .int .i64 d.term, .int .i64 d.index, .int .i64 d.logTerm, .int .i64 d.commit, .bool d.ok, .slice none 0 0, .slice bo d.conf.length bc, .string d.data, .bool d.last, .slice ao d.ents.length ac] = V := ⟨_, rfl⟩
  have KL : BlockIs VL (w.heap.size + 1) 95 [.int .i64 d.kind, .int .i64 d.src, .int .i64 d.dst, .int .i64 d.term, .int .i64 d.index, .int .i64 d.logTerm, .int .i64 d.commit, .bool d.ok, .slice none 0 0, .slice bo d.conf.length bc, .string d.data, .bool d.last, .slice ao d.ents.length ac] := by rw [← hVL]; exact whole_block K2_2.out _
  have BL : Hid (Below w.heap.size w VL) := by rw [← hVL]; exact below_setRow B_2.out (by omega) _
  have r0 := KL.cell (j := 0) rfl
  have r1 := KL.cell (j := 1) rfl
  have r2 := KL.cell (j := 2) rfl
  have r3 := KL.cell (j := 3) rfl
  have r4 := KL.cell (j := 4) rfl
  have r5 := KL.cell (j := 5) rfl
  have r6 := KL.cell (j := 6) rfl
  have r7 := KL.cell (j := 7) rfl
  have r8 := KL.cell (j := 8) rfl
  have r9 := KL.cell (j := 9) rfl
  have r10 := KL.cell (j := 10) rfl
  have r11 := KL.cell (j := 11) rfl
  have r12 := KL.cell (j := 12) rfl
  have q0 := K3_2.out.cell (j := 0) rfl
  clear KL
  go_enter Tryz.func43, Tryz.ntmps43
  go_wp2_with (first | (refine wpList_load_whole Tryz.underlying39 msg_size K1_2.out rfl rfl _ rfl rfl ?_) | (refine wpList_store_whole (T := 95) (n := 13) (by kernel_rfl) K2_2.out rfl rfl _ _ rfl _ rfl rfl rfl (by simp [Value.oneCell']) ?_; rw [hVL]) | fail)
  refine bodyPost_ret (v := .agg #[.int .i64 d.kind, .int .i64 d.src, .int .i64 d.dst, .int .i64 d.term, .int .i64 d.index, .int .i64 d.logTerm, .int .i64 d.commit, .bool d.ok, .slice none 0 0, .slice bo d.conf.length bc, .string d.data, .bool d.last, .slice ao d.ents.length ac]) (by simp [results, Tryz.results43, go_sem, r0, r1, r2, r3, r4, r5, r6, r7, r8, r9, r10, r11, r12]) rfl ⟨rfl, BL.out⟩

set_option maxRecDepth 1000000 in
set_option maxHeartbeats 4000000 in
theorem chunkLetter_any (d : MsgD) (ao : Option Addr) (ac : Nat) (bo : Option Addr) (bc : Nat) (w : World) :
    Calls Tryz.prog 45 #[.agg #[.int .i64 d.kind, .int .i64 d.src, .int .i64 d.dst, .int .i64 d.term, .int .i64 d.index, .int .i64 d.logTerm, .int .i64 d.commit, .bool d.ok, .slice ao d.ents.length ac, .slice bo d.conf.length bc, .string d.data, .bool d.last]] w fun e w' => e = .returned (.agg #[.int .i64 d.kind, .int .i64 d.src, .int .i64 d.dst, .int .i64 d.term, .int .i64 d.index, .int .i64 d.logTerm, .int .i64 d.commit, .bool d.ok, .slice ao d.ents.length ac, .slice none 0 0, .string ⟨#[]⟩, .bool false, .slice bo d.conf.length bc, .string d.data, .bool d.last]) ∧ Below w.heap.size w w' := by
  obtain ⟨U0, hU0⟩ : ∃ V, (w.alloc (.cells #[.int .i64 d.kind, .int .i64 d.src, .int .i64 d.dst, .int .i64 d.term, .int .i64 d.index, .int .i64 d.logTerm, .int .i64 d.commit, .bool d.ok, .slice ao d.ents.length ac, .slice bo d.conf.length bc, .string d.data, .bool d.last] 39)).alloc (.cells #[.int .i64 0, .int .i64 0, .int .i64 0, .int .i64 0, .int .i64 0, .int .i64 0, .int .i64 0, .bool false, .slice none 0 0, .slice none 0 0, .string ⟨#[]⟩, .bool false, .slice none 0 0, .string ⟨#[]⟩, .bool false] 100) = V := ⟨_, rfl⟩
  have hu : U0.heap.size = w.heap.size + 1 + 1 := by rw [← hU0]; simp [World.alloc, -World.alloc_eq]
  obtain ⟨hb0, hx1, hx2, hx3⟩ := four_log w (.cells #[.int .i64 d.kind, .int .i64 d.src, .int .i64 d.dst, .int .i64 d.term, .int .i64 d.index, .int .i64 d.logTerm, .int .i64 d.commit, .bool d.ok, .slice ao d.ents.length ac, .slice bo d.conf.length bc, .string d.data, .bool d.last] 39) (.cells #[.int .i64 0, .int .i64 0, .int .i64 0, .int .i64 0, .int .i64 0, .int .i64 0, .int .i64 0, .bool false, .slice none 0 0, .slice none 0 0, .string ⟨#[]⟩, .bool false, .slice none 0 0, .string ⟨#[]⟩, .bool false] 100) (.cells #[.slice none 0 0, .string ⟨#[]⟩, .bool false] 98)
  have M0 : BlockIs U0 w.heap.size 39 [.int .i64 d.kind, .int .i64 d.src, .int .i64 d.dst, .int .i64 d.term, .int .i64 d.index, .int .i64 d.logTerm, .int .i64 d.commit, .bool d.ok, .slice ao d.ents.length ac, .slice bo d.conf.length bc, .string d.data, .bool d.last] := by
    rw [← hU0]
    show ((w.heap.push _).push _)[w.heap.size]? = some _
    rw [Array.getElem?_push, if_neg (by simp), Array.getElem?_push, if_pos rfl]
  have u0 := M0.cell (j := 0) rfl
  have u1 := M0.cell (j := 1) rfl
  have u2 := M0.cell (j := 2) rfl
  have u3 := M0.cell (j := 3) rfl
  have u4 := M0.cell (j := 4) rfl
  have u5 := M0.cell (j := 5) rfl
  have u6 := M0.cell (j := 6) rfl
  have u7 := M0.cell (j := 7) rfl
  have u8 := M0.cell (j := 8) rfl
  have u9 := M0.cell (j := 9) rfl
  have u10 := M0.cell (j := 10) rfl
  have u11 := M0.cell (j := 11) rfl
  clear M0
  rw [hU0] at hb0 hx1 hx2 hx3
  obtain ⟨W0, hW0⟩ : ∃ V, U0.alloc (.cells #[.slice none 0 0, .string ⟨#[]⟩, .bool false] 98) = V := ⟨_, rfl⟩
  rw [hW0] at hb0 hx1 hx2 hx3
  have K1_0 := hid (show BlockIs W0 w.heap.size 39 [.int .i64 d.kind, .int .i64 d.src, .int .i64 d.dst, .int .i64 d.term, .int .i64 d.index, .int .i64 d.logTerm, .int .i64 d.commit, .bool d.ok, .slice ao d.ents.length ac, .slice bo d.conf.length bc, .string d.data, .bool d.last] from hx1)
  have K2_0 := hid (show BlockIs W0 (w.heap.size + 1) 100 [.int .i64 0, .int .i64 0, .int .i64 0, .int .i64 0, .int .i64 0, .int .i64 0, .int .i64 0, .bool false, .slice none 0 0, .slice none 0 0, .string ⟨#[]⟩, .bool false, .slice none 0 0, .string ⟨#[]⟩, .bool false] from hx2)
  have K3_0 := hid (show BlockIs W0 (w.heap.size + 1 + 1) 98 [.slice none 0 0, .string ⟨#[]⟩, .bool false] from hx3)
  have B_0 := hid hb0
  have hs0 : w.heap.size + 1 + 1 < W0.heap.size := K3_0.out.lt
  clear hb0 hx1 hx2 hx3
  have o0 := K3_0.out.cell (j := 0) rfl
  have f0 := K3_0.out.thaw 0
  obtain ⟨V0, hV0⟩ : ∃ V, W0.setCell ⟨w.heap.size + 1 + 1, 0, none⟩ (.slice bo d.conf.length bc) = V := ⟨_, rfl⟩
  have K1_1 : Hid (BlockIs V0 (w.heap.size) 39 [.int .i64 d.kind, .int .i64 d.src, .int .i64 d.dst, .int .i64 d.term, .int .i64 d.index, .int .i64 d.logTerm, .int .i64 d.commit, .bool d.ok, .slice ao d.ents.length ac, .slice bo d.conf.length bc, .string d.data, .bool d.last]) := by rw [← hV0]; exact K1_0.out.far (by omega) _
  have K2_1 : Hid (BlockIs V0 (w.heap.size + 1) 100 [.int .i64 0, .int .i64 0, .int .i64 0, .int .i64 0, .int .i64 0, .int .i64 0, .int .i64 0, .bool false, .slice none 0 0, .slice none 0 0, .string ⟨#[]⟩, .bool false, .slice none 0 0, .string ⟨#[]⟩, .bool false]) := by rw [← hV0]; exact K2_0.out.far (by omega) _
  have K3_1 : Hid (BlockIs V0 (w.heap.size + 1 + 1) 98 [.slice bo d.conf.length bc, .string ⟨#[]⟩, .bool false]) := by rw [← hV0]; exact K3_0.out.set 0 _
  have B_1 : Hid (Below w.heap.size w V0) := by rw [← hV0]; exact B_0.out.setCell (by show _ ≤ _ + 1 + 1; omega) _
  clear K1_0 K2_0 K3_0 B_0
  have o1 := K3_1.out.cell (j := 1) rfl
  have f1 := K3_1.out.thaw 1
  obtain ⟨V1, hV1⟩ : ∃ V, V0.setCell ⟨w.heap.size + 1 + 1, 1, none⟩ (.string d.data) = V := ⟨_, rfl⟩
  have K1_2 : Hid (BlockIs V1 (w.heap.size) 39 [.int .i64 d.kind, .int .i64 d.src, .int .i64 d.dst, .int .i64 d.term, .int .i64 d.index, .int .i64 d.logTerm, .int .i64 d.commit, .bool d.ok, .slice ao d.ents.length ac, .slice bo d.conf.length bc, .string d.data, .bool d.last]) := by rw [← hV1]; exact K1_1.out.far (by omega) _
  have K2_2 : Hid (BlockIs V1 (w.heap.size + 1) 100 [.int .i64 0, .int .i64 0, .int .i64 0, .int .i64 0, .int .i64 0, .int .i64 0, .int .i64 0, .bool false, .slice none 0 0, .slice none 0 0, .string ⟨#[]⟩, .bool false, .slice none 0 0, .string ⟨#[]⟩, .bool false]) := by rw [← hV1]; exact K2_1.out.far (by omega) _
  have K3_2 : Hid (BlockIs V1 (w.heap.size + 1 + 1) 98 [.slice bo d.conf.length bc, .string d.data, .bool false]) := by rw [← hV1]; exact K3_1.out.set 1 _
  have B_2 : Hid (Below w.heap.size w V1) := by rw [← hV1]; exact B_1.out.setCell (by show _ ≤ _ + 1 + 1; omega) _
  clear K1_1 K2_1 K3_1 B_1
  have o2 := K3_2.out.cell (j := 2) rfl
  have f2 := K3_2.out.thaw 2
  obtain ⟨V2, hV2⟩ : ∃ V, V1.setCell ⟨w.heap.size + 1 + 1, 2, none⟩ (.bool d.last) = V := ⟨_, rfl⟩
  have K1_3 : Hid (BlockIs V2 (w.heap.size) 39 [.int .i64 d.kind, .int .i64 d.src, .int .i64 d.dst, .int .i64 d.term, .int .i64 d.index, .int .i64 d.logTerm, .int .i64 d.commit, .bool d.ok, .slice ao d.ents.length ac, .slice bo d.conf.length bc, .string d.data, .bool d.last]) := by rw [← hV2]; exact K1_2.out.far (by omega) _
  have K2_3 : Hid (BlockIs V2 (w.heap.size + 1) 100 [.int .i64 0, .int .i64 0, .int .i64 0, .int .i64 0, .int .i64 0, .int .i64 0, .int .i64 0, .bool false, .slice none 0 0, .slice none 0 0, .string ⟨#[]⟩, .bool false, .slice none 0 0, .string ⟨#[]⟩, .bool false]) := by rw [← hV2]; exact K2_2.out.far (by omega) _
  have K3_3 : Hid (BlockIs V2 (w.heap.size + 1 + 1) 98 [.slice bo d.conf.length bc, .string d.data, .bool d.last]) := by rw [← hV2]; exact K3_2.out.set 2 _
  have B_3 : Hid (Below w.heap.size w V2) := by rw [← hV2]; exact B_2.out.setCell (by show _ ≤ _ + 1 + 1; omega) _
  clear K1_2 K2_2 K3_2 B_2
  have o3 := K1_3.out.cell (j := 9) rfl
  have f3 := K1_3.out.thaw 9
  obtain ⟨V3, hV3⟩ : ∃ V, V2.setCell ⟨w.heap.size, 9, none⟩ (.slice none 0 0) = V := ⟨_, rfl⟩
  have K1_4 : Hid (BlockIs V3 (w.heap.size) 39 [.int .i64 d.kind, .int .i64 d.src, .int .i64 d.dst, .int .i64 d.term, .int .i64 d.index, .int .i64 d.logTerm, .int .i64 d.commit, .bool d.ok, .slice ao d.ents.length ac, .slice none 0 0, .string d.data, .bool d.last]) := by rw [← hV3]; exact K1_3.out.set 9 _
  have K2_4 : Hid (BlockIs V3 (w.heap.size + 1) 100 [.int .i64 0, .int .i64 0, .int .i64 0, .int .i64 0, .int .i64 0, .int .i64 0, .int .i64 0, .bool false, .slice none 0 0, .slice none 0 0, .string ⟨#[]⟩, .bool false, .slice none 0 0, .string ⟨#[]⟩, .bool false]) := by rw [← hV3]; exact K2_3.out.far (by omega) _
  have K3_4 : Hid (BlockIs V3 (w.heap.size + 1 + 1) 98 [.slice bo d.conf.length bc, .string d.data, .bool d.last]) := by rw [← hV3]; exact K3_3.out.far (by omega) _
  have B_4 : Hid (Below w.heap.size w V3) := by rw [← hV3]; exact B_3.out.setCell (Nat.le_refl _) _
  clear K1_3 K2_3 K3_3 B_3
  have o4 := K1_4.out.cell (j := 10) rfl
  have f4 := K1_4.out.thaw 10
  obtain ⟨V4, hV4⟩ : ∃ V, V3.setCell ⟨w.heap.size, 10, none⟩ (.string ⟨#[]⟩) = V := ⟨_, rfl⟩
  have K1_5 : Hid (BlockIs V4 (w.heap.size) 39 [.int .i64 d.kind, .int .i64 d.src, .int .i64 d.dst, .int .i64 d.term, .int .i64 d.index, .int .i64 d.logTerm, .int .i64 d.commit, .bool d.ok, .slice ao d.ents.length ac, .slice none 0 0, .string ⟨#[]⟩, .bool d.last]) := by rw [← hV4]; exact K1_4.out.set 10 _
  have K2_5 : Hid (BlockIs V4 (w.heap.size + 1) 100 [.int .i64 0, .int .i64 0, .int .i64 0, .int .i64 0, .int .i64 0, .int .i64 0, .int .i64 0, .bool false, .slice none 0 0, .slice none 0 0, .string ⟨#[]⟩, .bool false, .slice none 0 0, .string ⟨#[]⟩, .bool false]) := by rw [← hV4]; exact K2_4.out.far (by omega) _
  have K3_5 : Hid (BlockIs V4 (w.heap.size + 1 + 1) 98 [.slice bo d.conf.length bc, .string d.data, .bool d.last]) := by rw [← hV4]; exact K3_4.out.far (by omega) _
  have B_5 : Hid (Below w.heap.size w V4) := by rw [← hV4]; exact B_4.out.setCell (Nat.le_refl _) _
  clear K1_4 K2_4 K3_4 B_4
  have o5 := K1_5.out.cell (j := 11) rfl
  have f5 := K1_5.out.thaw 11
  obtain ⟨V5, hV5⟩ : ∃ V, V4.setCell ⟨w.heap.size, 11, none⟩ (.bool false) = V := ⟨_, rfl⟩
  have K1_6 : Hid (BlockIs V5 (w.heap.size) 39 [.int .i64 d.kind, .int .i64 d.src, .int .i64 d.dst, .int .i64 d.term, .int .i64 d.index, .int .i64 d.logTerm, .int .i64 d.commit, .bool d.ok, .slice ao d.ents.length ac, .slice none 0 0, .string ⟨#[]⟩, .bool false]) := by rw [← hV5]; exact K1_5.out.set 11 _
  have K2_6 : Hid (BlockIs V5 (w.heap.size + 1) 100 [.int .i64 0, .int .i64 0, .int .i64 0, .int .i64 0, .int .i64 0, .int .i64 0, .int .i64 0, .bool false, .slice none 0 0, .slice none 0 0, .string ⟨#[]⟩, .bool false, .slice none 0 0, .string ⟨#[]⟩, .bool false]) := by rw [← hV5]; exact K2_5.out.far (by omega) _
  have K3_6 : Hid (BlockIs V5 (w.heap.size + 1 + 1) 98 [.slice bo d.conf.length bc, .string d.data, .bool d.last]) := by rw [← hV5]; exact K3_5.out.far (by omega) _
  have B_6 : Hid (Below w.heap.size w V5) := by rw [← hV5]; exact B_5.out.setCell (Nat.le_refl _) _
  clear K1_5 K2_5 K3_5 B_5
  obtain ⟨VL, hVL⟩ : ∃ V, V5.setRow (w.heap.size + 1) #[.int .i64 d.kind, .int .i64 d.src, .int .i64 d.dst, .int .i64 d.term, .int .i64 d.index, .int .i64 d.logTerm, .int .i64 d.commit, .bool d.ok, .slice ao d.ents.length ac, .slice none 0 0, .string ⟨#[]⟩, .bool false, .slice bo d.conf.length bc, .string d.data, .bool d.last] = V := ⟨_, rfl⟩
  have KL : BlockIs VL (w.heap.size + 1) 100 [.int .i64 d.kind, .int .i64 d.src, .int .i64 d.dst, .int .i64 d.term, .int .i64 d.index, .int .i64 d.logTerm, .int .i64 d.commit, .bool d.ok, .slice ao d.ents.length ac, .slice none 0 0, .string ⟨#[]⟩, .bool false, .slice bo d.conf.length bc, .string d.data, .bool d.last] := by rw [← hVL]; exact whole_block K2_6.out _
  have BL : Hid (Below w.heap.size w VL) := by rw [← hVL]; exact below_setRow B_6.out (by omega) _
  have r0 := KL.cell (j := 0) rfl
  have r1 := KL.cell (j := 1) rfl
  have r2 := KL.cell (j := 2) rfl
  have r3 := KL.cell (j := 3) rfl
  have r4 := KL.cell (j := 4) rfl
  have r5 := KL.cell (j := 5) rfl
  have r6 := KL.cell (j := 6) rfl
  have r7 := KL.cell (j := 7) rfl
  have r8 := KL.cell (j := 8) rfl
  have r9 := KL.cell (j := 9) rfl
  have r10 := KL.cell (j := 10) rfl
  have r11 := KL.cell (j := 11) rfl
  have r12 := KL.cell (j := 12) rfl
  have r13 := KL.cell (j := 13) rfl
  have r14 := KL.cell (j := 14) rfl
  have q0 := K3_6.out.cell (j := 0) rfl
  have q1 := K3_6.out.cell (j := 1) rfl
  have q2 := K3_6.out.cell (j := 2) rfl
  clear KL
  go_enter Tryz.func45, Tryz.ntmps45
  go_wp2_with (first | (refine wpList_load_whole Tryz.underlying39 msg_size K1_6.out rfl rfl _ rfl rfl ?_) | (refine wpList_store_whole (T := 100) (n := 15) (by kernel_rfl) K2_6.out rfl rfl _ _ rfl _ rfl rfl rfl (by simp [Value.oneCell']) ?_; rw [hVL]) | fail)
  refine bodyPost_ret (v := .agg #[.int .i64 d.kind, .int .i64 d.src, .int .i64 d.dst, .int .i64 d.term, .int .i64 d.index, .int .i64 d.logTerm, .int .i64 d.commit, .bool d.ok, .slice ao d.ents.length ac, .slice none 0 0, .string ⟨#[]⟩, .bool false, .slice bo d.conf.length bc, .string d.data, .bool d.last]) (by simp [results, Tryz.results45, go_sem, r0, r1, r2, r3, r4, r5, r6, r7, r8, r9, r10, r11, r12, r13, r14]) rfl ⟨rfl, BL.out⟩

end Go.Proofs.YtohmfmajgehadaaGreatDoor

namespace Go.Proofs.YtohmfmajgehadaaGreatDoor
open Go.RowKit

set_option maxRecDepth 1000000 in
set_option maxHeartbeats 400000 in
theorem implMessageOk_any (d : MsgD) (ao : Option Addr) (ac : Nat) (bo : Option Addr) (bc : Nat) (hs : d.Small) (w : World) (ha : EntsAt w ao d.ents) (hb : IntsAt w bo d.conf) :
    Calls Tryz.prog 16 #[.agg #[.int .i64 d.kind, .int .i64 d.src, .int .i64 d.dst, .int .i64 d.term, .int .i64 d.index, .int .i64 d.logTerm, .int .i64 d.commit, .bool d.ok, .slice ao d.ents.length ac, .slice bo d.conf.length bc, .string d.data, .bool d.last]] w fun e w' => e = .returned (.bool (messageOk d)) ∧ Below w.heap.size w w' := by
  have HA := hid ha
  have HI := hid hb
  have HS := hid hs
  clear ha hb hs
  by_cases k1 : d.kind = 1
  · have HR : Hid ((headOk d && bareOk d && true) = messageOk d) := messageOk_bare (by omega)
    have C := hid (fun w => noRight_any d ao ac bo bc w)
    rw [HR.out] at C
    rw [k1] at C ⊢
    have HB := hid (below_more (Below.refl w.heap.size w) (.cells #[.int .i64 1, .int .i64 d.src, .int .i64 d.dst, .int .i64 d.term, .int .i64 d.index, .int .i64 d.logTerm, .int .i64 d.commit, .bool d.ok, .slice ao d.ents.length ac, .slice bo d.conf.length bc, .string d.data, .bool d.last] 39))
    have hx : BlockIs (w.alloc (.cells #[.int .i64 1, .int .i64 d.src, .int .i64 d.dst, .int .i64 d.term, .int .i64 d.index, .int .i64 d.logTerm, .int .i64 d.commit, .bool d.ok, .slice ao d.ents.length ac, .slice bo d.conf.length bc, .string d.data, .bool d.last] 39)) w.heap.size 39 [.int .i64 1, .int .i64 d.src, .int .i64 d.dst, .int .i64 d.term, .int .i64 d.index, .int .i64 d.logTerm, .int .i64 d.commit, .bool d.ok, .slice ao d.ents.length ac, .slice bo d.conf.length bc, .string d.data, .bool d.last] := heap_alloc_new w _
    obtain ⟨W, hW⟩ : ∃ W, w.alloc (.cells #[.int .i64 1, .int .i64 d.src, .int .i64 d.dst, .int .i64 d.term, .int .i64 d.index, .int .i64 d.logTerm, .int .i64 d.commit, .bool d.ok, .slice ao d.ents.length ac, .slice bo d.conf.length bc, .string d.data, .bool d.last] 39) = W := ⟨_, rfl⟩
    rw [hW] at HB hx
    have c0 := hx.cell (j := 0) rfl
    have c1 := hx.cell (j := 1) rfl
    have c2 := hx.cell (j := 2) rfl
    have c3 := hx.cell (j := 3) rfl
    have c4 := hx.cell (j := 4) rfl
    have c5 := hx.cell (j := 5) rfl
    have c6 := hx.cell (j := 6) rfl
    have c7 := hx.cell (j := 7) rfl
    have c8 := hx.cell (j := 8) rfl
    have c9 := hx.cell (j := 9) rfl
    have c10 := hx.cell (j := 10) rfl
    have c11 := hx.cell (j := 11) rfl
    clear hx
    clear k1 HR
    go_enter Tryz.func16, Tryz.ntmps16
    go_wp2_with fail
    refine (C.out _).mono ?_
    rintro e w1 ⟨rfl, b1⟩
    have B1 := hid (below_via HB.out b1)
    clear b1 C
    go_wp2
    go_ret
    exact ⟨rfl, B1.out⟩
  by_cases k2 : d.kind = 2
  · have HR : Hid ((headOk d && bareOk d && true) = messageOk d) := messageOk_bare (by omega)
    have C := hid (fun w => noRight_any d ao ac bo bc w)
    rw [HR.out] at C
    rw [k2] at C ⊢
    have HB := hid (below_more (Below.refl w.heap.size w) (.cells #[.int .i64 2, .int .i64 d.src, .int .i64 d.dst, .int .i64 d.term, .int .i64 d.index, .int .i64 d.logTerm, .int .i64 d.commit, .bool d.ok, .slice ao d.ents.length ac, .slice bo d.conf.length bc, .string d.data, .bool d.last] 39))
    have hx : BlockIs (w.alloc (.cells #[.int .i64 2, .int .i64 d.src, .int .i64 d.dst, .int .i64 d.term, .int .i64 d.index, .int .i64 d.logTerm, .int .i64 d.commit, .bool d.ok, .slice ao d.ents.length ac, .slice bo d.conf.length bc, .string d.data, .bool d.last] 39)) w.heap.size 39 [.int .i64 2, .int .i64 d.src, .int .i64 d.dst, .int .i64 d.term, .int .i64 d.index, .int .i64 d.logTerm, .int .i64 d.commit, .bool d.ok, .slice ao d.ents.length ac, .slice bo d.conf.length bc, .string d.data, .bool d.last] := heap_alloc_new w _
    obtain ⟨W, hW⟩ : ∃ W, w.alloc (.cells #[.int .i64 2, .int .i64 d.src, .int .i64 d.dst, .int .i64 d.term, .int .i64 d.index, .int .i64 d.logTerm, .int .i64 d.commit, .bool d.ok, .slice ao d.ents.length ac, .slice bo d.conf.length bc, .string d.data, .bool d.last] 39) = W := ⟨_, rfl⟩
    rw [hW] at HB hx
    have c0 := hx.cell (j := 0) rfl
    have c1 := hx.cell (j := 1) rfl
    have c2 := hx.cell (j := 2) rfl
    have c3 := hx.cell (j := 3) rfl
    have c4 := hx.cell (j := 4) rfl
    have c5 := hx.cell (j := 5) rfl
    have c6 := hx.cell (j := 6) rfl
    have c7 := hx.cell (j := 7) rfl
    have c8 := hx.cell (j := 8) rfl
    have c9 := hx.cell (j := 9) rfl
    have c10 := hx.cell (j := 10) rfl
    have c11 := hx.cell (j := 11) rfl
    clear hx
    clear k2 HR
    go_enter Tryz.func16, Tryz.ntmps16
    go_wp2_with fail
    refine (C.out _).mono ?_
    rintro e w1 ⟨rfl, b1⟩
    have B1 := hid (below_via HB.out b1)
    clear b1 C
    go_wp2
    go_ret
    exact ⟨rfl, B1.out⟩
  by_cases k4 : d.kind = 4
  · have HR : Hid ((headOk d && bareOk d && true) = messageOk d) := messageOk_bare (by omega)
    have C := hid (fun w => noRight_any d ao ac bo bc w)
    rw [HR.out] at C
    rw [k4] at C ⊢
    have HB := hid (below_more (Below.refl w.heap.size w) (.cells #[.int .i64 4, .int .i64 d.src, .int .i64 d.dst, .int .i64 d.term, .int .i64 d.index, .int .i64 d.logTerm, .int .i64 d.commit, .bool d.ok, .slice ao d.ents.length ac, .slice bo d.conf.length bc, .string d.data, .bool d.last] 39))
    have hx : BlockIs (w.alloc (.cells #[.int .i64 4, .int .i64 d.src, .int .i64 d.dst, .int .i64 d.term, .int .i64 d.index, .int .i64 d.logTerm, .int .i64 d.commit, .bool d.ok, .slice ao d.ents.length ac, .slice bo d.conf.length bc, .string d.data, .bool d.last] 39)) w.heap.size 39 [.int .i64 4, .int .i64 d.src, .int .i64 d.dst, .int .i64 d.term, .int .i64 d.index, .int .i64 d.logTerm, .int .i64 d.commit, .bool d.ok, .slice ao d.ents.length ac, .slice bo d.conf.length bc, .string d.data, .bool d.last] := heap_alloc_new w _
    obtain ⟨W, hW⟩ : ∃ W, w.alloc (.cells #[.int .i64 4, .int .i64 d.src, .int .i64 d.dst, .int .i64 d.term, .int .i64 d.index, .int .i64 d.logTerm, .int .i64 d.commit, .bool d.ok, .slice ao d.ents.length ac, .slice bo d.conf.length bc, .string d.data, .bool d.last] 39) = W := ⟨_, rfl⟩
    rw [hW] at HB hx
    have c0 := hx.cell (j := 0) rfl
    have c1 := hx.cell (j := 1) rfl
    have c2 := hx.cell (j := 2) rfl
    have c3 := hx.cell (j := 3) rfl
    have c4 := hx.cell (j := 4) rfl
    have c5 := hx.cell (j := 5) rfl
    have c6 := hx.cell (j := 6) rfl
    have c7 := hx.cell (j := 7) rfl
    have c8 := hx.cell (j := 8) rfl
    have c9 := hx.cell (j := 9) rfl
    have c10 := hx.cell (j := 10) rfl
    have c11 := hx.cell (j := 11) rfl
    clear hx
    clear k4 HR
    go_enter Tryz.func16, Tryz.ntmps16
    go_wp2_with fail
    refine (C.out _).mono ?_
    rintro e w1 ⟨rfl, b1⟩
    have B1 := hid (below_via HB.out b1)
    clear b1 C
    go_wp2
    go_ret
    exact ⟨rfl, B1.out⟩
  by_cases k6 : d.kind = 6
  · have HR : Hid ((headOk d && bareOk d && true) = messageOk d) := messageOk_bare (by omega)
    have C := hid (fun w => noRight_any d ao ac bo bc w)
    rw [HR.out] at C
    rw [k6] at C ⊢
    have HB := hid (below_more (Below.refl w.heap.size w) (.cells #[.int .i64 6, .int .i64 d.src, .int .i64 d.dst, .int .i64 d.term, .int .i64 d.index, .int .i64 d.logTerm, .int .i64 d.commit, .bool d.ok, .slice ao d.ents.length ac, .slice bo d.conf.length bc, .string d.data, .bool d.last] 39))
    have hx : BlockIs (w.alloc (.cells #[.int .i64 6, .int .i64 d.src, .int .i64 d.dst, .int .i64 d.term, .int .i64 d.index, .int .i64 d.logTerm, .int .i64 d.commit, .bool d.ok, .slice ao d.ents.length ac, .slice bo d.conf.length bc, .string d.data, .bool d.last] 39)) w.heap.size 39 [.int .i64 6, .int .i64 d.src, .int .i64 d.dst, .int .i64 d.term, .int .i64 d.index, .int .i64 d.logTerm, .int .i64 d.commit, .bool d.ok, .slice ao d.ents.length ac, .slice bo d.conf.length bc, .string d.data, .bool d.last] := heap_alloc_new w _
    obtain ⟨W, hW⟩ : ∃ W, w.alloc (.cells #[.int .i64 6, .int .i64 d.src, .int .i64 d.dst, .int .i64 d.term, .int .i64 d.index, .int .i64 d.logTerm, .int .i64 d.commit, .bool d.ok, .slice ao d.ents.length ac, .slice bo d.conf.length bc, .string d.data, .bool d.last] 39) = W := ⟨_, rfl⟩
    rw [hW] at HB hx
    have c0 := hx.cell (j := 0) rfl
    have c1 := hx.cell (j := 1) rfl
    have c2 := hx.cell (j := 2) rfl
    have c3 := hx.cell (j := 3) rfl
    have c4 := hx.cell (j := 4) rfl
    have c5 := hx.cell (j := 5) rfl
    have c6 := hx.cell (j := 6) rfl
    have c7 := hx.cell (j := 7) rfl
    have c8 := hx.cell (j := 8) rfl
    have c9 := hx.cell (j := 9) rfl
    have c10 := hx.cell (j := 10) rfl
    have c11 := hx.cell (j := 11) rfl
    clear hx
    clear k6 HR
    go_enter Tryz.func16, Tryz.ntmps16
    go_wp2_with fail
    refine (C.out _).mono ?_
    rintro e w1 ⟨rfl, b1⟩
    have B1 := hid (below_via HB.out b1)
    clear b1 C
    go_wp2
    go_ret
    exact ⟨rfl, B1.out⟩
  by_cases k3 : d.kind = 3
  · have HR : Hid ((headOk { d with ents := [] } && bareOk { d with ents := [] } && (decide (d.ents.length ≤ 4) && sentOk d.logTerm d.term d.ents)) = messageOk d) := messageOk_ask k3
    have C := hid (fun w ha => entsRight_any ao d.ents ac HS.out.ents { d with ents := [] } none 0 bo bc w ha)
    have CL := hid (fun w => entryLetter_any d ao ac bo bc w)
    have C' : Hid (∀ (w : World) (_ : _), _) := C
    rw [HR.out] at C
    rw [k3] at CL ⊢
    clear C'
    have HB := hid (below_more (Below.refl w.heap.size w) (.cells #[.int .i64 3, .int .i64 d.src, .int .i64 d.dst, .int .i64 d.term, .int .i64 d.index, .int .i64 d.logTerm, .int .i64 d.commit, .bool d.ok, .slice ao d.ents.length ac, .slice bo d.conf.length bc, .string d.data, .bool d.last] 39))
    have hx : BlockIs (w.alloc (.cells #[.int .i64 3, .int .i64 d.src, .int .i64 d.dst, .int .i64 d.term, .int .i64 d.index, .int .i64 d.logTerm, .int .i64 d.commit, .bool d.ok, .slice ao d.ents.length ac, .slice bo d.conf.length bc, .string d.data, .bool d.last] 39)) w.heap.size 39 [.int .i64 3, .int .i64 d.src, .int .i64 d.dst, .int .i64 d.term, .int .i64 d.index, .int .i64 d.logTerm, .int .i64 d.commit, .bool d.ok, .slice ao d.ents.length ac, .slice bo d.conf.length bc, .string d.data, .bool d.last] := heap_alloc_new w _
    obtain ⟨W, hW⟩ : ∃ W, w.alloc (.cells #[.int .i64 3, .int .i64 d.src, .int .i64 d.dst, .int .i64 d.term, .int .i64 d.index, .int .i64 d.logTerm, .int .i64 d.commit, .bool d.ok, .slice ao d.ents.length ac, .slice bo d.conf.length bc, .string d.data, .bool d.last] 39) = W := ⟨_, rfl⟩
    rw [hW] at HB hx
    have c0 := hx.cell (j := 0) rfl
    have c1 := hx.cell (j := 1) rfl
    have c2 := hx.cell (j := 2) rfl
    have c3 := hx.cell (j := 3) rfl
    have c4 := hx.cell (j := 4) rfl
    have c5 := hx.cell (j := 5) rfl
    have c6 := hx.cell (j := 6) rfl
    have c7 := hx.cell (j := 7) rfl
    have c8 := hx.cell (j := 8) rfl
    have c9 := hx.cell (j := 9) rfl
    have c10 := hx.cell (j := 10) rfl
    have c11 := hx.cell (j := 11) rfl
    clear hx
    have HK := hid k3
    clear k3 HR
    go_enter Tryz.func16, Tryz.ntmps16
    go_wp2_with fail
    refine (CL.out _).mono ?_
    rintro e w1 ⟨rfl, b1⟩
    have B1 := hid (below_via HB.out b1)
    clear b1 CL
    rw [show (Value.int .i64 3) = .int .i64 d.kind by rw [HK.out]]
    go_wp2_with fail
    refine (C.out _ (HA.out.on B1.out)).mono ?_
    rintro e w2 ⟨rfl, b2⟩
    have B2 := hid (below_via B1.out b2)
    clear b2 C
    go_wp2
    go_ret
    exact ⟨rfl, B2.out⟩
  by_cases k5 : d.kind = 5
  · have HR : Hid ((headOk { d with conf := [], data := ⟨#[]⟩, last := false } && bareOk { d with conf := [], data := ⟨#[]⟩, last := false } && (confOk d.conf && decide (d.data.size ≤ 60))) = messageOk d) := messageOk_chunk k5
    have C := hid (fun w ha => chunkRight_any bo d.conf bc d.data d.last HS.out.conf { d with conf := [], data := ⟨#[]⟩, last := false } ao ac none 0 w ha)
    have CL := hid (fun w => chunkLetter_any d ao ac bo bc w)
    have C' : Hid (∀ (w : World) (_ : _), _) := C
    rw [HR.out] at C
    rw [k5] at CL ⊢
    clear C'
    have HB := hid (below_more (Below.refl w.heap.size w) (.cells #[.int .i64 5, .int .i64 d.src, .int .i64 d.dst, .int .i64 d.term, .int .i64 d.index, .int .i64 d.logTerm, .int .i64 d.commit, .bool d.ok, .slice ao d.ents.length ac, .slice bo d.conf.length bc, .string d.data, .bool d.last] 39))
    have hx : BlockIs (w.alloc (.cells #[.int .i64 5, .int .i64 d.src, .int .i64 d.dst, .int .i64 d.term, .int .i64 d.index, .int .i64 d.logTerm, .int .i64 d.commit, .bool d.ok, .slice ao d.ents.length ac, .slice bo d.conf.length bc, .string d.data, .bool d.last] 39)) w.heap.size 39 [.int .i64 5, .int .i64 d.src, .int .i64 d.dst, .int .i64 d.term, .int .i64 d.index, .int .i64 d.logTerm, .int .i64 d.commit, .bool d.ok, .slice ao d.ents.length ac, .slice bo d.conf.length bc, .string d.data, .bool d.last] := heap_alloc_new w _
    obtain ⟨W, hW⟩ : ∃ W, w.alloc (.cells #[.int .i64 5, .int .i64 d.src, .int .i64 d.dst, .int .i64 d.term, .int .i64 d.index, .int .i64 d.logTerm, .int .i64 d.commit, .bool d.ok, .slice ao d.ents.length ac, .slice bo d.conf.length bc, .string d.data, .bool d.last] 39) = W := ⟨_, rfl⟩
    rw [hW] at HB hx
    have c0 := hx.cell (j := 0) rfl
    have c1 := hx.cell (j := 1) rfl
    have c2 := hx.cell (j := 2) rfl
    have c3 := hx.cell (j := 3) rfl
    have c4 := hx.cell (j := 4) rfl
    have c5 := hx.cell (j := 5) rfl
    have c6 := hx.cell (j := 6) rfl
    have c7 := hx.cell (j := 7) rfl
    have c8 := hx.cell (j := 8) rfl
    have c9 := hx.cell (j := 9) rfl
    have c10 := hx.cell (j := 10) rfl
    have c11 := hx.cell (j := 11) rfl
    clear hx
    have HK := hid k5
    clear k5 HR
    go_enter Tryz.func16, Tryz.ntmps16
    go_wp2_with fail
    refine (CL.out _).mono ?_
    rintro e w1 ⟨rfl, b1⟩
    have B1 := hid (below_via HB.out b1)
    clear b1 CL
    rw [show (Value.int .i64 5) = .int .i64 d.kind by rw [HK.out]]
    go_wp2_with fail
    refine (C.out _ (HI.out.on B1.out)).mono ?_
    rintro e w2 ⟨rfl, b2⟩
    have B2 := hid (below_via B1.out b2)
    clear b2 C
    go_wp2
    go_ret
    exact ⟨rfl, B2.out⟩
  have n1 : ¬ d.kind = 1 := by omega
  have n2 : ¬ d.kind = 2 := by omega
  have n3 : ¬ d.kind = 3 := by omega
  have n4 : ¬ d.kind = 4 := by omega
  have n5 : ¬ d.kind = 5 := by omega
  have n6 : ¬ d.kind = 6 := by omega
  have HR := hid (messageOk_kind (m := d) (by omega))
  have HB := hid (below_more (Below.refl w.heap.size w) (.cells #[.int .i64 d.kind, .int .i64 d.src, .int .i64 d.dst, .int .i64 d.term, .int .i64 d.index, .int .i64 d.logTerm, .int .i64 d.commit, .bool d.ok, .slice ao d.ents.length ac, .slice bo d.conf.length bc, .string d.data, .bool d.last] 39))
  have hx : BlockIs (w.alloc (.cells #[.int .i64 d.kind, .int .i64 d.src, .int .i64 d.dst, .int .i64 d.term, .int .i64 d.index, .int .i64 d.logTerm, .int .i64 d.commit, .bool d.ok, .slice ao d.ents.length ac, .slice bo d.conf.length bc, .string d.data, .bool d.last] 39)) w.heap.size 39 [.int .i64 d.kind, .int .i64 d.src, .int .i64 d.dst, .int .i64 d.term, .int .i64 d.index, .int .i64 d.logTerm, .int .i64 d.commit, .bool d.ok, .slice ao d.ents.length ac, .slice bo d.conf.length bc, .string d.data, .bool d.last] := heap_alloc_new w _
  obtain ⟨W, hW⟩ : ∃ W, w.alloc (.cells #[.int .i64 d.kind, .int .i64 d.src, .int .i64 d.dst, .int .i64 d.term, .int .i64 d.index, .int .i64 d.logTerm, .int .i64 d.commit, .bool d.ok, .slice ao d.ents.length ac, .slice bo d.conf.length bc, .string d.data, .bool d.last] 39) = W := ⟨_, rfl⟩
  rw [hW] at HB hx
  have c0 := hx.cell (j := 0) rfl
  have c1 := hx.cell (j := 1) rfl
  have c2 := hx.cell (j := 2) rfl
  have c3 := hx.cell (j := 3) rfl
  have c4 := hx.cell (j := 4) rfl
  have c5 := hx.cell (j := 5) rfl
  have c6 := hx.cell (j := 6) rfl
  have c7 := hx.cell (j := 7) rfl
  have c8 := hx.cell (j := 8) rfl
  have c9 := hx.cell (j := 9) rfl
  have c10 := hx.cell (j := 10) rfl
  have c11 := hx.cell (j := 11) rfl
  clear hx
  clear k1 k2 k3 k4 k5 k6
  go_enter Tryz.func16, Tryz.ntmps16
  go_wp2
  go_ret
  exact ⟨by rw [HR.out]; rfl, HB.out⟩
end Go.Proofs.YtohmfmajgehadaaGreatDoor
