/-
  The walk of laws.toStream: a stream is laid anew, in memory of its own.
-/
import Derived.Test.YtngcldjkpcmidaaJoint4
import Derived.Test.YtngcldjkpcmidaaJoint1
namespace Go.Proofs.Ytngcldjkpcmidaa
open Go.RowKit

set_option maxRecDepth 1000000 in
set_option maxHeartbeats 4000000 in
theorem toStream_any (d : StrD) (ao : Option Addr) (cap : Nat) (hl : d.late.length ≤ 1048576) (w : World) (ha : LatesAt w ao d.late) :
    Calls Try.prog 8 #[.agg #[.int .i64 d.st, .int .i64 d.iss, .int .i64 d.una, .int .i64 d.rcv, .string d.wait, .int .i64 d.sent, .int .i64 d.fin, .bool d.pf, .string d.inn, .slice ao d.late.length cap, .bool d.owe, .int .i64 d.due, .int .i64 d.times]] w fun e w' => ∃ g, w.heap.size ≤ g ∧ e = .returned (.agg #[.int .i64 d.st, .int .i64 d.iss, .int .i64 d.una, .int .i64 d.rcv, .string d.wait, .int .i64 d.sent, .int .i64 d.fin, .bool d.pf, .string d.inn, .slice (some ⟨g, 0, none⟩) d.late.length d.late.length, .bool d.owe, .int .i64 d.due, .int .i64 d.times]) ∧ BlockIs w' g 61 (lateCells d.late) ∧ Below w.heap.size w w' := by
  have C := hid (fun w ha => toLateS_any ao d.late cap hl w ha)
  obtain ⟨hb0, hx1, hx2, hx3⟩ := four_log w (.cells #[.int .i64 d.st, .int .i64 d.iss, .int .i64 d.una, .int .i64 d.rcv, .string d.wait, .int .i64 d.sent, .int .i64 d.fin, .bool d.pf, .string d.inn, .slice ao d.late.length cap, .bool d.owe, .int .i64 d.due, .int .i64 d.times] 24) (.cells #[.int .i64 0, .int .i64 0, .int .i64 0, .int .i64 0, .string ⟨#[]⟩, .int .i64 0, .int .i64 0, .bool false, .string ⟨#[]⟩, .slice none 0 0, .bool false, .int .i64 0, .int .i64 0] 31) (.cells #[.int .i64 0, .int .i64 0, .int .i64 0, .int .i64 0, .string ⟨#[]⟩, .int .i64 0, .int .i64 0, .bool false, .string ⟨#[]⟩, .slice none 0 0, .bool false, .int .i64 0, .int .i64 0] 31)
  obtain ⟨W0, hW0⟩ : ∃ W0, ((w.alloc (.cells #[.int .i64 d.st, .int .i64 d.iss, .int .i64 d.una, .int .i64 d.rcv, .string d.wait, .int .i64 d.sent, .int .i64 d.fin, .bool d.pf, .string d.inn, .slice ao d.late.length cap, .bool d.owe, .int .i64 d.due, .int .i64 d.times] 24)).alloc (.cells #[.int .i64 0, .int .i64 0, .int .i64 0, .int .i64 0, .string ⟨#[]⟩, .int .i64 0, .int .i64 0, .bool false, .string ⟨#[]⟩, .slice none 0 0, .bool false, .int .i64 0, .int .i64 0] 31)).alloc (.cells #[.int .i64 0, .int .i64 0, .int .i64 0, .int .i64 0, .string ⟨#[]⟩, .int .i64 0, .int .i64 0, .bool false, .string ⟨#[]⟩, .slice none 0 0, .bool false, .int .i64 0, .int .i64 0] 31) = W0 := ⟨_, rfl⟩
  rw [hW0] at hb0 hx1 hx2 hx3
  have hs0 : w.heap.size + 1 + 1 < W0.heap.size := BlockIs.lt (show BlockIs _ _ 31 [.int .i64 0, .int .i64 0, .int .i64 0, .int .i64 0, .string ⟨#[]⟩, .int .i64 0, .int .i64 0, .bool false, .string ⟨#[]⟩, .slice none 0 0, .bool false, .int .i64 0, .int .i64 0] from hx3)
  have K1_0 := hid (show BlockIs W0 _ 24 [.int .i64 d.st, .int .i64 d.iss, .int .i64 d.una, .int .i64 d.rcv, .string d.wait, .int .i64 d.sent, .int .i64 d.fin, .bool d.pf, .string d.inn, .slice ao d.late.length cap, .bool d.owe, .int .i64 d.due, .int .i64 d.times] from hx1)
  have K2_0 := hid (show BlockIs W0 _ 31 [.int .i64 0, .int .i64 0, .int .i64 0, .int .i64 0, .string ⟨#[]⟩, .int .i64 0, .int .i64 0, .bool false, .string ⟨#[]⟩, .slice none 0 0, .bool false, .int .i64 0, .int .i64 0] from hx2)
  have K3_0 := hid (show BlockIs W0 (w.heap.size + 1 + 1) 31 [.int .i64 0, .int .i64 0, .int .i64 0, .int .i64 0, .string ⟨#[]⟩, .int .i64 0, .int .i64 0, .bool false, .string ⟨#[]⟩, .slice none 0 0, .bool false, .int .i64 0, .int .i64 0] from hx3)
  have B_0 := hid hb0
  have HA := hid ha
  clear hb0 hx1 hx2 hx3 ha
  have p0 := K1_0.out.cell (j := 0) rfl
  have o0 := K3_0.out.cell (j := 0) rfl
  have f0 := K3_0.out.thaw 0
  obtain ⟨V0, hV0⟩ : ∃ V, W0.setCell ⟨w.heap.size + 1 + 1, 0, none⟩ (.int .i64 d.st) = V := ⟨_, rfl⟩
  have K1_1 : Hid (BlockIs V0 w.heap.size 24 [.int .i64 d.st, .int .i64 d.iss, .int .i64 d.una, .int .i64 d.rcv, .string d.wait, .int .i64 d.sent, .int .i64 d.fin, .bool d.pf, .string d.inn, .slice ao d.late.length cap, .bool d.owe, .int .i64 d.due, .int .i64 d.times]) := by rw [← hV0]; exact K1_0.out.far (by omega) _
  have K2_1 : Hid (BlockIs V0 (w.heap.size + 1) 31 [.int .i64 0, .int .i64 0, .int .i64 0, .int .i64 0, .string ⟨#[]⟩, .int .i64 0, .int .i64 0, .bool false, .string ⟨#[]⟩, .slice none 0 0, .bool false, .int .i64 0, .int .i64 0]) := by rw [← hV0]; exact K2_0.out.far (by omega) _
  have K3_1 : Hid (BlockIs V0 (w.heap.size + 1 + 1) 31 [.int .i64 d.st, .int .i64 0, .int .i64 0, .int .i64 0, .string ⟨#[]⟩, .int .i64 0, .int .i64 0, .bool false, .string ⟨#[]⟩, .slice none 0 0, .bool false, .int .i64 0, .int .i64 0]) := by rw [← hV0]; exact K3_0.out.set 0 _
  have B_1 : Hid (Below w.heap.size w V0) := by rw [← hV0]; exact B_0.out.setCell (by show _ ≤ _ + 1 + 1; omega) _
  clear K1_0 K2_0 K3_0 B_0
  have p1 := K1_1.out.cell (j := 1) rfl
  have o1 := K3_1.out.cell (j := 1) rfl
  have f1 := K3_1.out.thaw 1
  obtain ⟨V1, hV1⟩ : ∃ V, V0.setCell ⟨w.heap.size + 1 + 1, 1, none⟩ (.int .i64 d.iss) = V := ⟨_, rfl⟩
  have K1_2 : Hid (BlockIs V1 w.heap.size 24 [.int .i64 d.st, .int .i64 d.iss, .int .i64 d.una, .int .i64 d.rcv, .string d.wait, .int .i64 d.sent, .int .i64 d.fin, .bool d.pf, .string d.inn, .slice ao d.late.length cap, .bool d.owe, .int .i64 d.due, .int .i64 d.times]) := by rw [← hV1]; exact K1_1.out.far (by omega) _
  have K2_2 : Hid (BlockIs V1 (w.heap.size + 1) 31 [.int .i64 0, .int .i64 0, .int .i64 0, .int .i64 0, .string ⟨#[]⟩, .int .i64 0, .int .i64 0, .bool false, .string ⟨#[]⟩, .slice none 0 0, .bool false, .int .i64 0, .int .i64 0]) := by rw [← hV1]; exact K2_1.out.far (by omega) _
  have K3_2 : Hid (BlockIs V1 (w.heap.size + 1 + 1) 31 [.int .i64 d.st, .int .i64 d.iss, .int .i64 0, .int .i64 0, .string ⟨#[]⟩, .int .i64 0, .int .i64 0, .bool false, .string ⟨#[]⟩, .slice none 0 0, .bool false, .int .i64 0, .int .i64 0]) := by rw [← hV1]; exact K3_1.out.set 1 _
  have B_2 : Hid (Below w.heap.size w V1) := by rw [← hV1]; exact B_1.out.setCell (by show _ ≤ _ + 1 + 1; omega) _
  clear K1_1 K2_1 K3_1 B_1
  have p2 := K1_2.out.cell (j := 2) rfl
  have o2 := K3_2.out.cell (j := 2) rfl
  have f2 := K3_2.out.thaw 2
  obtain ⟨V2, hV2⟩ : ∃ V, V1.setCell ⟨w.heap.size + 1 + 1, 2, none⟩ (.int .i64 d.una) = V := ⟨_, rfl⟩
  have K1_3 : Hid (BlockIs V2 w.heap.size 24 [.int .i64 d.st, .int .i64 d.iss, .int .i64 d.una, .int .i64 d.rcv, .string d.wait, .int .i64 d.sent, .int .i64 d.fin, .bool d.pf, .string d.inn, .slice ao d.late.length cap, .bool d.owe, .int .i64 d.due, .int .i64 d.times]) := by rw [← hV2]; exact K1_2.out.far (by omega) _
  have K2_3 : Hid (BlockIs V2 (w.heap.size + 1) 31 [.int .i64 0, .int .i64 0, .int .i64 0, .int .i64 0, .string ⟨#[]⟩, .int .i64 0, .int .i64 0, .bool false, .string ⟨#[]⟩, .slice none 0 0, .bool false, .int .i64 0, .int .i64 0]) := by rw [← hV2]; exact K2_2.out.far (by omega) _
  have K3_3 : Hid (BlockIs V2 (w.heap.size + 1 + 1) 31 [.int .i64 d.st, .int .i64 d.iss, .int .i64 d.una, .int .i64 0, .string ⟨#[]⟩, .int .i64 0, .int .i64 0, .bool false, .string ⟨#[]⟩, .slice none 0 0, .bool false, .int .i64 0, .int .i64 0]) := by rw [← hV2]; exact K3_2.out.set 2 _
  have B_3 : Hid (Below w.heap.size w V2) := by rw [← hV2]; exact B_2.out.setCell (by show _ ≤ _ + 1 + 1; omega) _
  clear K1_2 K2_2 K3_2 B_2
  have p3 := K1_3.out.cell (j := 3) rfl
  have o3 := K3_3.out.cell (j := 3) rfl
  have f3 := K3_3.out.thaw 3
  obtain ⟨V3, hV3⟩ : ∃ V, V2.setCell ⟨w.heap.size + 1 + 1, 3, none⟩ (.int .i64 d.rcv) = V := ⟨_, rfl⟩
  have K1_4 : Hid (BlockIs V3 w.heap.size 24 [.int .i64 d.st, .int .i64 d.iss, .int .i64 d.una, .int .i64 d.rcv, .string d.wait, .int .i64 d.sent, .int .i64 d.fin, .bool d.pf, .string d.inn, .slice ao d.late.length cap, .bool d.owe, .int .i64 d.due, .int .i64 d.times]) := by rw [← hV3]; exact K1_3.out.far (by omega) _
  have K2_4 : Hid (BlockIs V3 (w.heap.size + 1) 31 [.int .i64 0, .int .i64 0, .int .i64 0, .int .i64 0, .string ⟨#[]⟩, .int .i64 0, .int .i64 0, .bool false, .string ⟨#[]⟩, .slice none 0 0, .bool false, .int .i64 0, .int .i64 0]) := by rw [← hV3]; exact K2_3.out.far (by omega) _
  have K3_4 : Hid (BlockIs V3 (w.heap.size + 1 + 1) 31 [.int .i64 d.st, .int .i64 d.iss, .int .i64 d.una, .int .i64 d.rcv, .string ⟨#[]⟩, .int .i64 0, .int .i64 0, .bool false, .string ⟨#[]⟩, .slice none 0 0, .bool false, .int .i64 0, .int .i64 0]) := by rw [← hV3]; exact K3_3.out.set 3 _
  have B_4 : Hid (Below w.heap.size w V3) := by rw [← hV3]; exact B_3.out.setCell (by show _ ≤ _ + 1 + 1; omega) _
  clear K1_3 K2_3 K3_3 B_3
  have p4 := K1_4.out.cell (j := 4) rfl
  have o4 := K3_4.out.cell (j := 4) rfl
  have f4 := K3_4.out.thaw 4
  obtain ⟨V4, hV4⟩ : ∃ V, V3.setCell ⟨w.heap.size + 1 + 1, 4, none⟩ (.string d.wait) = V := ⟨_, rfl⟩
  have K1_5 : Hid (BlockIs V4 w.heap.size 24 [.int .i64 d.st, .int .i64 d.iss, .int .i64 d.una, .int .i64 d.rcv, .string d.wait, .int .i64 d.sent, .int .i64 d.fin, .bool d.pf, .string d.inn, .slice ao d.late.length cap, .bool d.owe, .int .i64 d.due, .int .i64 d.times]) := by rw [← hV4]; exact K1_4.out.far (by omega) _
  have K2_5 : Hid (BlockIs V4 (w.heap.size + 1) 31 [.int .i64 0, .int .i64 0, .int .i64 0, .int .i64 0, .string ⟨#[]⟩, .int .i64 0, .int .i64 0, .bool false, .string ⟨#[]⟩, .slice none 0 0, .bool false, .int .i64 0, .int .i64 0]) := by rw [← hV4]; exact K2_4.out.far (by omega) _
  have K3_5 : Hid (BlockIs V4 (w.heap.size + 1 + 1) 31 [.int .i64 d.st, .int .i64 d.iss, .int .i64 d.una, .int .i64 d.rcv, .string d.wait, .int .i64 0, .int .i64 0, .bool false, .string ⟨#[]⟩, .slice none 0 0, .bool false, .int .i64 0, .int .i64 0]) := by rw [← hV4]; exact K3_4.out.set 4 _
  have B_5 : Hid (Below w.heap.size w V4) := by rw [← hV4]; exact B_4.out.setCell (by show _ ≤ _ + 1 + 1; omega) _
  clear K1_4 K2_4 K3_4 B_4
  have p5 := K1_5.out.cell (j := 5) rfl
  have o5 := K3_5.out.cell (j := 5) rfl
  have f5 := K3_5.out.thaw 5
  obtain ⟨V5, hV5⟩ : ∃ V, V4.setCell ⟨w.heap.size + 1 + 1, 5, none⟩ (.int .i64 d.sent) = V := ⟨_, rfl⟩
  have K1_6 : Hid (BlockIs V5 w.heap.size 24 [.int .i64 d.st, .int .i64 d.iss, .int .i64 d.una, .int .i64 d.rcv, .string d.wait, .int .i64 d.sent, .int .i64 d.fin, .bool d.pf, .string d.inn, .slice ao d.late.length cap, .bool d.owe, .int .i64 d.due, .int .i64 d.times]) := by rw [← hV5]; exact K1_5.out.far (by omega) _
  have K2_6 : Hid (BlockIs V5 (w.heap.size + 1) 31 [.int .i64 0, .int .i64 0, .int .i64 0, .int .i64 0, .string ⟨#[]⟩, .int .i64 0, .int .i64 0, .bool false, .string ⟨#[]⟩, .slice none 0 0, .bool false, .int .i64 0, .int .i64 0]) := by rw [← hV5]; exact K2_5.out.far (by omega) _
  have K3_6 : Hid (BlockIs V5 (w.heap.size + 1 + 1) 31 [.int .i64 d.st, .int .i64 d.iss, .int .i64 d.una, .int .i64 d.rcv, .string d.wait, .int .i64 d.sent, .int .i64 0, .bool false, .string ⟨#[]⟩, .slice none 0 0, .bool false, .int .i64 0, .int .i64 0]) := by rw [← hV5]; exact K3_5.out.set 5 _
  have B_6 : Hid (Below w.heap.size w V5) := by rw [← hV5]; exact B_5.out.setCell (by show _ ≤ _ + 1 + 1; omega) _
  clear K1_5 K2_5 K3_5 B_5
  have p6 := K1_6.out.cell (j := 6) rfl
  have o6 := K3_6.out.cell (j := 6) rfl
  have f6 := K3_6.out.thaw 6
  obtain ⟨V6, hV6⟩ : ∃ V, V5.setCell ⟨w.heap.size + 1 + 1, 6, none⟩ (.int .i64 d.fin) = V := ⟨_, rfl⟩
  have K1_7 : Hid (BlockIs V6 w.heap.size 24 [.int .i64 d.st, .int .i64 d.iss, .int .i64 d.una, .int .i64 d.rcv, .string d.wait, .int .i64 d.sent, .int .i64 d.fin, .bool d.pf, .string d.inn, .slice ao d.late.length cap, .bool d.owe, .int .i64 d.due, .int .i64 d.times]) := by rw [← hV6]; exact K1_6.out.far (by omega) _
  have K2_7 : Hid (BlockIs V6 (w.heap.size + 1) 31 [.int .i64 0, .int .i64 0, .int .i64 0, .int .i64 0, .string ⟨#[]⟩, .int .i64 0, .int .i64 0, .bool false, .string ⟨#[]⟩, .slice none 0 0, .bool false, .int .i64 0, .int .i64 0]) := by rw [← hV6]; exact K2_6.out.far (by omega) _
  have K3_7 : Hid (BlockIs V6 (w.heap.size + 1 + 1) 31 [.int .i64 d.st, .int .i64 d.iss, .int .i64 d.una, .int .i64 d.rcv, .string d.wait, .int .i64 d.sent, .int .i64 d.fin, .bool false, .string ⟨#[]⟩, .slice none 0 0, .bool false, .int .i64 0, .int .i64 0]) := by rw [← hV6]; exact K3_6.out.set 6 _
  have B_7 : Hid (Below w.heap.size w V6) := by rw [← hV6]; exact B_6.out.setCell (by show _ ≤ _ + 1 + 1; omega) _
  clear K1_6 K2_6 K3_6 B_6
  have p7 := K1_7.out.cell (j := 7) rfl
  have o7 := K3_7.out.cell (j := 7) rfl
  have f7 := K3_7.out.thaw 7
  obtain ⟨V7, hV7⟩ : ∃ V, V6.setCell ⟨w.heap.size + 1 + 1, 7, none⟩ (.bool d.pf) = V := ⟨_, rfl⟩
  have K1_8 : Hid (BlockIs V7 w.heap.size 24 [.int .i64 d.st, .int .i64 d.iss, .int .i64 d.una, .int .i64 d.rcv, .string d.wait, .int .i64 d.sent, .int .i64 d.fin, .bool d.pf, .string d.inn, .slice ao d.late.length cap, .bool d.owe, .int .i64 d.due, .int .i64 d.times]) := by rw [← hV7]; exact K1_7.out.far (by omega) _
  have K2_8 : Hid (BlockIs V7 (w.heap.size + 1) 31 [.int .i64 0, .int .i64 0, .int .i64 0, .int .i64 0, .string ⟨#[]⟩, .int .i64 0, .int .i64 0, .bool false, .string ⟨#[]⟩, .slice none 0 0, .bool false, .int .i64 0, .int .i64 0]) := by rw [← hV7]; exact K2_7.out.far (by omega) _
  have K3_8 : Hid (BlockIs V7 (w.heap.size + 1 + 1) 31 [.int .i64 d.st, .int .i64 d.iss, .int .i64 d.una, .int .i64 d.rcv, .string d.wait, .int .i64 d.sent, .int .i64 d.fin, .bool d.pf, .string ⟨#[]⟩, .slice none 0 0, .bool false, .int .i64 0, .int .i64 0]) := by rw [← hV7]; exact K3_7.out.set 7 _
  have B_8 : Hid (Below w.heap.size w V7) := by rw [← hV7]; exact B_7.out.setCell (by show _ ≤ _ + 1 + 1; omega) _
  clear K1_7 K2_7 K3_7 B_7
  have p8 := K1_8.out.cell (j := 8) rfl
  have o8 := K3_8.out.cell (j := 8) rfl
  have f8 := K3_8.out.thaw 8
  obtain ⟨V8, hV8⟩ : ∃ V, V7.setCell ⟨w.heap.size + 1 + 1, 8, none⟩ (.string d.inn) = V := ⟨_, rfl⟩
  have K1_9 : Hid (BlockIs V8 w.heap.size 24 [.int .i64 d.st, .int .i64 d.iss, .int .i64 d.una, .int .i64 d.rcv, .string d.wait, .int .i64 d.sent, .int .i64 d.fin, .bool d.pf, .string d.inn, .slice ao d.late.length cap, .bool d.owe, .int .i64 d.due, .int .i64 d.times]) := by rw [← hV8]; exact K1_8.out.far (by omega) _
  have K2_9 : Hid (BlockIs V8 (w.heap.size + 1) 31 [.int .i64 0, .int .i64 0, .int .i64 0, .int .i64 0, .string ⟨#[]⟩, .int .i64 0, .int .i64 0, .bool false, .string ⟨#[]⟩, .slice none 0 0, .bool false, .int .i64 0, .int .i64 0]) := by rw [← hV8]; exact K2_8.out.far (by omega) _
  have K3_9 : Hid (BlockIs V8 (w.heap.size + 1 + 1) 31 [.int .i64 d.st, .int .i64 d.iss, .int .i64 d.una, .int .i64 d.rcv, .string d.wait, .int .i64 d.sent, .int .i64 d.fin, .bool d.pf, .string d.inn, .slice none 0 0, .bool false, .int .i64 0, .int .i64 0]) := by rw [← hV8]; exact K3_8.out.set 8 _
  have B_9 : Hid (Below w.heap.size w V8) := by rw [← hV8]; exact B_8.out.setCell (by show _ ≤ _ + 1 + 1; omega) _
  clear K1_8 K2_8 K3_8 B_8
  have p9 := K1_9.out.cell (j := 9) rfl
  go_enter Try.func8, Try.ntmps8
  go_wp2_with fail
  refine (C.out _ (HA.out.on B_9.out)).mono ?_
  rintro e w1 ⟨rfl, hbl, b1⟩
  obtain ⟨g9, hg9⟩ : ∃ g, V8.heap.size = g := ⟨_, rfl⟩
  rw [hg9] at hbl b1 ⊢
  have hg9l : w.heap.size + 1 + 1 < g9 := by rw [← hg9]; exact K3_9.out.lt
  have K1_9b := hid (K1_9.out.on (B := g9) b1 (by omega))
  have K2_9b := hid (K2_9.out.on (B := g9) b1 (by omega))
  have K3_9b := hid (K3_9.out.on (B := g9) b1 (by omega))
  have B_9b := hid (B_9.out.trans (b1.mono (by omega)))
  have L_9b := hid hbl
  clear hbl b1 C K1_9 K2_9 K3_9 B_9 hg9 p9
  have o9 := K3_9b.out.cell (j := 9) rfl
  have f9 := K3_9b.out.thaw 9
  obtain ⟨V9, hV9⟩ : ∃ V, w1.setCell ⟨w.heap.size + 1 + 1, 9, none⟩ (.slice (some ⟨g9, 0, none⟩) d.late.length d.late.length) = V := ⟨_, rfl⟩
  have K1_10 : Hid (BlockIs V9 w.heap.size 24 [.int .i64 d.st, .int .i64 d.iss, .int .i64 d.una, .int .i64 d.rcv, .string d.wait, .int .i64 d.sent, .int .i64 d.fin, .bool d.pf, .string d.inn, .slice ao d.late.length cap, .bool d.owe, .int .i64 d.due, .int .i64 d.times]) := by rw [← hV9]; exact K1_9b.out.far (by omega) _
  have K2_10 : Hid (BlockIs V9 (w.heap.size + 1) 31 [.int .i64 0, .int .i64 0, .int .i64 0, .int .i64 0, .string ⟨#[]⟩, .int .i64 0, .int .i64 0, .bool false, .string ⟨#[]⟩, .slice none 0 0, .bool false, .int .i64 0, .int .i64 0]) := by rw [← hV9]; exact K2_9b.out.far (by omega) _
  have K3_10 : Hid (BlockIs V9 (w.heap.size + 1 + 1) 31 [.int .i64 d.st, .int .i64 d.iss, .int .i64 d.una, .int .i64 d.rcv, .string d.wait, .int .i64 d.sent, .int .i64 d.fin, .bool d.pf, .string d.inn, .slice (some ⟨g9, 0, none⟩) d.late.length d.late.length, .bool false, .int .i64 0, .int .i64 0]) := by rw [← hV9]; exact K3_9b.out.set 9 _
  have B_10 : Hid (Below w.heap.size w V9) := by rw [← hV9]; exact B_9b.out.setCell (by show _ ≤ _ + 1 + 1; omega) _
  have L_10 : Hid (BlockIs V9 g9 61 (lateCells d.late)) := by rw [← hV9]; exact L_9b.out.far (by omega) _
  clear K1_9b K2_9b K3_9b B_9b L_9b
  have p10 := K1_10.out.cell (j := 10) rfl
  have o10 := K3_10.out.cell (j := 10) rfl
  have f10 := K3_10.out.thaw 10
  obtain ⟨V10, hV10⟩ : ∃ V, V9.setCell ⟨w.heap.size + 1 + 1, 10, none⟩ (.bool d.owe) = V := ⟨_, rfl⟩
  have K1_11 : Hid (BlockIs V10 w.heap.size 24 [.int .i64 d.st, .int .i64 d.iss, .int .i64 d.una, .int .i64 d.rcv, .string d.wait, .int .i64 d.sent, .int .i64 d.fin, .bool d.pf, .string d.inn, .slice ao d.late.length cap, .bool d.owe, .int .i64 d.due, .int .i64 d.times]) := by rw [← hV10]; exact K1_10.out.far (by omega) _
  have K2_11 : Hid (BlockIs V10 (w.heap.size + 1) 31 [.int .i64 0, .int .i64 0, .int .i64 0, .int .i64 0, .string ⟨#[]⟩, .int .i64 0, .int .i64 0, .bool false, .string ⟨#[]⟩, .slice none 0 0, .bool false, .int .i64 0, .int .i64 0]) := by rw [← hV10]; exact K2_10.out.far (by omega) _
  have K3_11 : Hid (BlockIs V10 (w.heap.size + 1 + 1) 31 [.int .i64 d.st, .int .i64 d.iss, .int .i64 d.una, .int .i64 d.rcv, .string d.wait, .int .i64 d.sent, .int .i64 d.fin, .bool d.pf, .string d.inn, .slice (some ⟨g9, 0, none⟩) d.late.length d.late.length, .bool d.owe, .int .i64 0, .int .i64 0]) := by rw [← hV10]; exact K3_10.out.set 10 _
  have B_11 : Hid (Below w.heap.size w V10) := by rw [← hV10]; exact B_10.out.setCell (by show _ ≤ _ + 1 + 1; omega) _
  have L_11 : Hid (BlockIs V10 g9 61 (lateCells d.late)) := by rw [← hV10]; exact L_10.out.far (by omega) _
  clear K1_10 K2_10 K3_10 B_10 L_10
  have p11 := K1_11.out.cell (j := 11) rfl
  have o11 := K3_11.out.cell (j := 11) rfl
  have f11 := K3_11.out.thaw 11
  obtain ⟨V11, hV11⟩ : ∃ V, V10.setCell ⟨w.heap.size + 1 + 1, 11, none⟩ (.int .i64 d.due) = V := ⟨_, rfl⟩
  have K1_12 : Hid (BlockIs V11 w.heap.size 24 [.int .i64 d.st, .int .i64 d.iss, .int .i64 d.una, .int .i64 d.rcv, .string d.wait, .int .i64 d.sent, .int .i64 d.fin, .bool d.pf, .string d.inn, .slice ao d.late.length cap, .bool d.owe, .int .i64 d.due, .int .i64 d.times]) := by rw [← hV11]; exact K1_11.out.far (by omega) _
  have K2_12 : Hid (BlockIs V11 (w.heap.size + 1) 31 [.int .i64 0, .int .i64 0, .int .i64 0, .int .i64 0, .string ⟨#[]⟩, .int .i64 0, .int .i64 0, .bool false, .string ⟨#[]⟩, .slice none 0 0, .bool false, .int .i64 0, .int .i64 0]) := by rw [← hV11]; exact K2_11.out.far (by omega) _
  have K3_12 : Hid (BlockIs V11 (w.heap.size + 1 + 1) 31 [.int .i64 d.st, .int .i64 d.iss, .int .i64 d.una, .int .i64 d.rcv, .string d.wait, .int .i64 d.sent, .int .i64 d.fin, .bool d.pf, .string d.inn, .slice (some ⟨g9, 0, none⟩) d.late.length d.late.length, .bool d.owe, .int .i64 d.due, .int .i64 0]) := by rw [← hV11]; exact K3_11.out.set 11 _
  have B_12 : Hid (Below w.heap.size w V11) := by rw [← hV11]; exact B_11.out.setCell (by show _ ≤ _ + 1 + 1; omega) _
  have L_12 : Hid (BlockIs V11 g9 61 (lateCells d.late)) := by rw [← hV11]; exact L_11.out.far (by omega) _
  clear K1_11 K2_11 K3_11 B_11 L_11
  have p12 := K1_12.out.cell (j := 12) rfl
  have o12 := K3_12.out.cell (j := 12) rfl
  have f12 := K3_12.out.thaw 12
  obtain ⟨V12, hV12⟩ : ∃ V, V11.setCell ⟨w.heap.size + 1 + 1, 12, none⟩ (.int .i64 d.times) = V := ⟨_, rfl⟩
  have K1_13 : Hid (BlockIs V12 w.heap.size 24 [.int .i64 d.st, .int .i64 d.iss, .int .i64 d.una, .int .i64 d.rcv, .string d.wait, .int .i64 d.sent, .int .i64 d.fin, .bool d.pf, .string d.inn, .slice ao d.late.length cap, .bool d.owe, .int .i64 d.due, .int .i64 d.times]) := by rw [← hV12]; exact K1_12.out.far (by omega) _
  have K2_13 : Hid (BlockIs V12 (w.heap.size + 1) 31 [.int .i64 0, .int .i64 0, .int .i64 0, .int .i64 0, .string ⟨#[]⟩, .int .i64 0, .int .i64 0, .bool false, .string ⟨#[]⟩, .slice none 0 0, .bool false, .int .i64 0, .int .i64 0]) := by rw [← hV12]; exact K2_12.out.far (by omega) _
  have K3_13 : Hid (BlockIs V12 (w.heap.size + 1 + 1) 31 [.int .i64 d.st, .int .i64 d.iss, .int .i64 d.una, .int .i64 d.rcv, .string d.wait, .int .i64 d.sent, .int .i64 d.fin, .bool d.pf, .string d.inn, .slice (some ⟨g9, 0, none⟩) d.late.length d.late.length, .bool d.owe, .int .i64 d.due, .int .i64 d.times]) := by rw [← hV12]; exact K3_12.out.set 12 _
  have B_13 : Hid (Below w.heap.size w V12) := by rw [← hV12]; exact B_12.out.setCell (by show _ ≤ _ + 1 + 1; omega) _
  have L_13 : Hid (BlockIs V12 g9 61 (lateCells d.late)) := by rw [← hV12]; exact L_12.out.far (by omega) _
  clear K1_12 K2_12 K3_12 B_12 L_12
  obtain ⟨VL, hVL⟩ : ∃ V, V12.setRow (w.heap.size + 1) #[.int .i64 d.st, .int .i64 d.iss, .int .i64 d.una, .int .i64 d.rcv, .string d.wait, .int .i64 d.sent, .int .i64 d.fin, .bool d.pf, .string d.inn, .slice (some ⟨g9, 0, none⟩) d.late.length d.late.length, .bool d.owe, .int .i64 d.due, .int .i64 d.times] = V := ⟨_, rfl⟩
  have KL : BlockIs VL (w.heap.size + 1) 31 [.int .i64 d.st, .int .i64 d.iss, .int .i64 d.una, .int .i64 d.rcv, .string d.wait, .int .i64 d.sent, .int .i64 d.fin, .bool d.pf, .string d.inn, .slice (some ⟨g9, 0, none⟩) d.late.length d.late.length, .bool d.owe, .int .i64 d.due, .int .i64 d.times] := by rw [← hVL]; exact store_block K2_13.out _
  have BL : Hid (Below w.heap.size w VL) := by rw [← hVL]; exact below_setRow B_13.out (by omega) _
  have LL : Hid (BlockIs VL g9 61 (lateCells d.late)) := by rw [← hVL]; exact block_setRow L_13.out (by omega) _
  have r0 := KL.cell (j := 0) rfl
  have r1 := KL.cell (j := 1) rfl
  have r2 := KL.cell (j := 2) rfl
  have r3 := KL.cell (j := 3) rfl
  have r4 := KL.cell (j := 4) rfl
  have r5 := KL.cell (j := 5) rfl
  have r6 := KL.cell (j := 6) rfl
  have r7 := KL.cell (j := 7) rfl
  have r8 := KL.cell (j := 8) rfl
  have r9 := KL.cell (j := 9) rfl
  have r10 := KL.cell (j := 10) rfl
  have r11 := KL.cell (j := 11) rfl
  have r12 := KL.cell (j := 12) rfl
  clear KL
  go_wp2_with (first | (refine wpList_load_str K3_13.out rfl rfl _ rfl rfl ?_) | (refine wpList_store_str K2_13.out rfl rfl _ _ rfl _ rfl rfl rfl (strCells_all d _ _) ?_; rw [hVL]) | fail)
  refine bodyPost_ret (v := .agg #[.int .i64 d.st, .int .i64 d.iss, .int .i64 d.una, .int .i64 d.rcv, .string d.wait, .int .i64 d.sent, .int .i64 d.fin, .bool d.pf, .string d.inn, .slice (some ⟨g9, 0, none⟩) d.late.length d.late.length, .bool d.owe, .int .i64 d.due, .int .i64 d.times]) (by simp [results, Try.results8, go_sem, r0, r1, r2, r3, r4, r5, r6, r7, r8, r9, r10, r11, r12]) rfl ⟨g9, by omega, rfl, LL.out, BL.out⟩

theorem toStream_o (d : StrD) (ao : Option Addr) (cap : Nat) (hl : d.late.length ≤ 1048576) (w : World) (ha : LatesAt w ao d.late) :
    Calls Try.prog 8 #[.agg #[.int .i64 d.st, .int .i64 d.iss, .int .i64 d.una, .int .i64 d.rcv, .string d.wait, .int .i64 d.sent, .int .i64 d.fin, .bool d.pf, .string d.inn, .slice ao d.late.length cap, .bool d.owe, .int .i64 d.due, .int .i64 d.times]] w fun e w' => ∃ va vc, e = .returned (.agg #[.int .i64 d.st, .int .i64 d.iss, .int .i64 d.una, .int .i64 d.rcv, .string d.wait, .int .i64 d.sent, .int .i64 d.fin, .bool d.pf, .string d.inn, .slice va d.late.length vc, .bool d.owe, .int .i64 d.due, .int .i64 d.times]) ∧ d.late.length ≤ vc ∧ OwnAt w' 61 (lateCells d.late) d.late.length va w.heap.size w'.heap.size ∧ Below w.heap.size w w' := by
  refine (toStream_any d ao cap hl w ha).mono ?_
  rintro e w' ⟨g, hg, rfl, hk, hb⟩
  exact ⟨_, _, rfl, Nat.le_refl _, Or.inr ⟨g, [], rfl, hg, hk.lt, by rw [List.append_nil]; exact hk⟩, hb⟩
end Go.Proofs.Ytngcldjkpcmidaa
