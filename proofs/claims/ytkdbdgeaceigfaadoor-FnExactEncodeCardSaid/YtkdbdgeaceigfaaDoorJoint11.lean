/-
  The walk of laws.toMessage: a message is laid anew, in memory of its own.
-/
import Derived.Test.YtkdbdgeaceigfaaDoorJoint10
import Derived.Test.YtkdbdgeaceigfaaDoorJoint5
import Derived.Test.YtkdbdgeaceigfaaDoorJoint1
namespace Go.Proofs.YtkdbdgeaceigfaaDoor
open Go.RowKit

set_option maxRecDepth 1000000 in
set_option maxHeartbeats 4000000 in
theorem toMessage_any (d : MsgD) (ao : Option Addr) (ac : Nat) (bo : Option Addr) (bc : Nat) (hl : d.ents.length ≤ 1048576) (hl' : d.conf.length ≤ 1048576) (w : World) (ha : EntsAt w ao d.ents) (hb : IntsAt w bo d.conf) :
    Calls Tryd.prog 6 #[.agg #[.int .i64 d.kind, .int .i64 d.src, .int .i64 d.dst, .int .i64 d.term, .int .i64 d.index, .int .i64 d.logTerm, .int .i64 d.commit, .bool d.ok, .slice ao d.ents.length ac, .slice bo d.conf.length bc, .string d.data, .bool d.last]] w fun e w' => ∃ g h, w.heap.size ≤ g ∧ g < h ∧ e = .returned (.agg #[.int .i64 d.kind, .int .i64 d.src, .int .i64 d.dst, .int .i64 d.term, .int .i64 d.index, .int .i64 d.logTerm, .int .i64 d.commit, .bool d.ok, .slice (some ⟨g, 0, none⟩) d.ents.length d.ents.length, .slice (some ⟨h, 0, none⟩) d.conf.length d.conf.length, .string d.data, .bool d.last]) ∧ BlockIs w' g 43 (entCells d.ents) ∧ BlockIs w' h 3 (intCells d.conf) ∧ Below w.heap.size w w' := by
  have C := hid (fun w ha => toEntryS_any ao d.ents ac hl w ha)
  have D := hid (fun w ha => toIntS_any bo d.conf bc hl' w ha)
  obtain ⟨hb0, hx1, hx2, hx3⟩ := four_log w (.cells #[.int .i64 d.kind, .int .i64 d.src, .int .i64 d.dst, .int .i64 d.term, .int .i64 d.index, .int .i64 d.logTerm, .int .i64 d.commit, .bool d.ok, .slice ao d.ents.length ac, .slice bo d.conf.length bc, .string d.data, .bool d.last] 25) (.cells #[.int .i64 0, .int .i64 0, .int .i64 0, .int .i64 0, .int .i64 0, .int .i64 0, .int .i64 0, .bool false, .slice none 0 0, .slice none 0 0, .string ⟨#[]⟩, .bool false] 31) (.cells #[.int .i64 0, .int .i64 0, .int .i64 0, .int .i64 0, .int .i64 0, .int .i64 0, .int .i64 0, .bool false, .slice none 0 0, .slice none 0 0, .string ⟨#[]⟩, .bool false] 31)
  obtain ⟨W0, hW0⟩ : ∃ W0, ((w.alloc (.cells #[.int .i64 d.kind, .int .i64 d.src, .int .i64 d.dst, .int .i64 d.term, .int .i64 d.index, .int .i64 d.logTerm, .int .i64 d.commit, .bool d.ok, .slice ao d.ents.length ac, .slice bo d.conf.length bc, .string d.data, .bool d.last] 25)).alloc (.cells #[.int .i64 0, .int .i64 0, .int .i64 0, .int .i64 0, .int .i64 0, .int .i64 0, .int .i64 0, .bool false, .slice none 0 0, .slice none 0 0, .string ⟨#[]⟩, .bool false] 31)).alloc (.cells #[.int .i64 0, .int .i64 0, .int .i64 0, .int .i64 0, .int .i64 0, .int .i64 0, .int .i64 0, .bool false, .slice none 0 0, .slice none 0 0, .string ⟨#[]⟩, .bool false] 31) = W0 := ⟨_, rfl⟩
  rw [hW0] at hb0 hx1 hx2 hx3
  have hs0 : w.heap.size + 1 + 1 < W0.heap.size := BlockIs.lt (show BlockIs _ _ 31 [.int .i64 0, .int .i64 0, .int .i64 0, .int .i64 0, .int .i64 0, .int .i64 0, .int .i64 0, .bool false, .slice none 0 0, .slice none 0 0, .string ⟨#[]⟩, .bool false] from hx3)
  have K1_0 := hid (show BlockIs W0 _ 25 [.int .i64 d.kind, .int .i64 d.src, .int .i64 d.dst, .int .i64 d.term, .int .i64 d.index, .int .i64 d.logTerm, .int .i64 d.commit, .bool d.ok, .slice ao d.ents.length ac, .slice bo d.conf.length bc, .string d.data, .bool d.last] from hx1)
  have K2_0 := hid (show BlockIs W0 _ 31 [.int .i64 0, .int .i64 0, .int .i64 0, .int .i64 0, .int .i64 0, .int .i64 0, .int .i64 0, .bool false, .slice none 0 0, .slice none 0 0, .string ⟨#[]⟩, .bool false] from hx2)
  have K3_0 := hid (show BlockIs W0 (w.heap.size + 1 + 1) 31 [.int .i64 0, .int .i64 0, .int .i64 0, .int .i64 0, .int .i64 0, .int .i64 0, .int .i64 0, .bool false, .slice none 0 0, .slice none 0 0, .string ⟨#[]⟩, .bool false] from hx3)
  have B_0 := hid hb0
  have HA := hid ha
  have HI := hid hb
  clear hb0 hx1 hx2 hx3 ha hb
  have p0 := K1_0.out.cell (j := 0) rfl
  have o0 := K3_0.out.cell (j := 0) rfl
  have f0 := K3_0.out.thaw 0
  obtain ⟨V0, hV0⟩ : ∃ V, W0.setCell ⟨w.heap.size + 1 + 1, 0, none⟩ (.int .i64 d.kind) = V := ⟨_, rfl⟩
  have K1_1 : Hid (BlockIs V0 w.heap.size 25 [.int .i64 d.kind, .int .i64 d.src, .int .i64 d.dst, .int .i64 d.term, .int .i64 d.index, .int .i64 d.logTerm, .int .i64 d.commit, .bool d.ok, .slice ao d.ents.length ac, .slice bo d.conf.length bc, .string d.data, .bool d.last]) := by rw [← hV0]; exact K1_0.out.far (by omega) _
  have K2_1 : Hid (BlockIs V0 (w.heap.size + 1) 31 [.int .i64 0, .int .i64 0, .int .i64 0, .int .i64 0, .int .i64 0, .int .i64 0, .int .i64 0, .bool false, .slice none 0 0, .slice none 0 0, .string ⟨#[]⟩, .bool false]) := by rw [← hV0]; exact K2_0.out.far (by omega) _
  have K3_1 : Hid (BlockIs V0 (w.heap.size + 1 + 1) 31 [.int .i64 d.kind, .int .i64 0, .int .i64 0, .int .i64 0, .int .i64 0, .int .i64 0, .int .i64 0, .bool false, .slice none 0 0, .slice none 0 0, .string ⟨#[]⟩, .bool false]) := by rw [← hV0]; exact K3_0.out.set 0 _
  have B_1 : Hid (Below w.heap.size w V0) := by rw [← hV0]; exact B_0.out.setCell (by show _ ≤ _ + 1 + 1; omega) _
  clear K1_0 K2_0 K3_0 B_0
  have p1 := K1_1.out.cell (j := 1) rfl
  have o1 := K3_1.out.cell (j := 1) rfl
  have f1 := K3_1.out.thaw 1
  obtain ⟨V1, hV1⟩ : ∃ V, V0.setCell ⟨w.heap.size + 1 + 1, 1, none⟩ (.int .i64 d.src) = V := ⟨_, rfl⟩
  have K1_2 : Hid (BlockIs V1 w.heap.size 25 [.int .i64 d.kind, .int .i64 d.src, .int .i64 d.dst, .int .i64 d.term, .int .i64 d.index, .int .i64 d.logTerm, .int .i64 d.commit, .bool d.ok, .slice ao d.ents.length ac, .slice bo d.conf.length bc, .string d.data, .bool d.last]) := by rw [← hV1]; exact K1_1.out.far (by omega) _
  have K2_2 : Hid (BlockIs V1 (w.heap.size + 1) 31 [.int .i64 0, .int .i64 0, .int .i64 0, .int .i64 0, .int .i64 0, .int .i64 0, .int .i64 0, .bool false, .slice none 0 0, .slice none 0 0, .string ⟨#[]⟩, .bool false]) := by rw [← hV1]; exact K2_1.out.far (by omega) _
  have K3_2 : Hid (BlockIs V1 (w.heap.size + 1 + 1) 31 [.int .i64 d.kind, .int .i64 d.src, .int .i64 0, .int .i64 0, .int .i64 0, .int .i64 0, .int .i64 0, .bool false, .slice none 0 0, .slice none 0 0, .string ⟨#[]⟩, .bool false]) := by rw [← hV1]; exact K3_1.out.set 1 _
  have B_2 : Hid (Below w.heap.size w V1) := by rw [← hV1]; exact B_1.out.setCell (by show _ ≤ _ + 1 + 1; omega) _
  clear K1_1 K2_1 K3_1 B_1
  have p2 := K1_2.out.cell (j := 2) rfl
  have o2 := K3_2.out.cell (j := 2) rfl
  have f2 := K3_2.out.thaw 2
  obtain ⟨V2, hV2⟩ : ∃ V, V1.setCell ⟨w.heap.size + 1 + 1, 2, none⟩ (.int .i64 d.dst) = V := ⟨_, rfl⟩
  have K1_3 : Hid (BlockIs V2 w.heap.size 25 [.int .i64 d.kind, .int .i64 d.src, .int .i64 d.dst, .int .i64 d.term, .int .i64 d.index, .int .i64 d.logTerm, .int .i64 d.commit, .bool d.ok, .slice ao d.ents.length ac, .slice bo d.conf.length bc, .string d.data, .bool d.last]) := by rw [← hV2]; exact K1_2.out.far (by omega) _
  have K2_3 : Hid (BlockIs V2 (w.heap.size + 1) 31 [.int .i64 0, .int .i64 0, .int .i64 0, .int .i64 0, .int .i64 0, .int .i64 0, .int .i64 0, .bool false, .slice none 0 0, .slice none 0 0, .string ⟨#[]⟩, .bool false]) := by rw [← hV2]; exact K2_2.out.far (by omega) _
  have K3_3 : Hid (BlockIs V2 (w.heap.size + 1 + 1) 31 [.int .i64 d.kind, .int .i64 d.src, .int .i64 d.dst, .int .i64 0, .int .i64 0, .int .i64 0, .int .i64 0, .bool false, .slice none 0 0, .slice none 0 0, .string ⟨#[]⟩, .bool false]) := by rw [← hV2]; exact K3_2.out.set 2 _
  have B_3 : Hid (Below w.heap.size w V2) := by rw [← hV2]; exact B_2.out.setCell (by show _ ≤ _ + 1 + 1; omega) _
  clear K1_2 K2_2 K3_2 B_2
  have p3 := K1_3.out.cell (j := 3) rfl
  have o3 := K3_3.out.cell (j := 3) rfl
  have f3 := K3_3.out.thaw 3
  obtain ⟨V3, hV3⟩ : ∃ V, V2.setCell ⟨w.heap.size + 1 + 1, 3, none⟩ (.int .i64 d.term) = V := ⟨_, rfl⟩
  have K1_4 : Hid (BlockIs V3 w.heap.size 25 [.int .i64 d.kind, .int .i64 d.src, .int .i64 d.dst, .int .i64 d.term, .int .i64 d.index, .int .i64 d.logTerm, .int .i64 d.commit, .bool d.ok, .slice ao d.ents.length ac, .slice bo d.conf.length bc, .string d.data, .bool d.last]) := by rw [← hV3]; exact K1_3.out.far (by omega) _
  have K2_4 : Hid (BlockIs V3 (w.heap.size + 1) 31 [.int .i64 0, .int .i64 0, .int .i64 0, .int .i64 0, .int .i64 0, .int .i64 0, .int .i64 0, .bool false, .slice none 0 0, .slice none 0 0, .string ⟨#[]⟩, .bool false]) := by rw [← hV3]; exact K2_3.out.far (by omega) _
  have K3_4 : Hid (BlockIs V3 (w.heap.size + 1 + 1) 31 [.int .i64 d.kind, .int .i64 d.src, .int .i64 d.dst, .int .i64 d.term, .int .i64 0, .int .i64 0, .int .i64 0, .bool false, .slice none 0 0, .slice none 0 0, .string ⟨#[]⟩, .bool false]) := by rw [← hV3]; exact K3_3.out.set 3 _
  have B_4 : Hid (Below w.heap.size w V3) := by rw [← hV3]; exact B_3.out.setCell (by show _ ≤ _ + 1 + 1; omega) _
  clear K1_3 K2_3 K3_3 B_3
  have p4 := K1_4.out.cell (j := 4) rfl
  have o4 := K3_4.out.cell (j := 4) rfl
  have f4 := K3_4.out.thaw 4
  obtain ⟨V4, hV4⟩ : ∃ V, V3.setCell ⟨w.heap.size + 1 + 1, 4, none⟩ (.int .i64 d.index) = V := ⟨_, rfl⟩
  have K1_5 : Hid (BlockIs V4 w.heap.size 25 [.int .i64 d.kind, .int .i64 d.src, .int .i64 d.dst, .int .i64 d.term, .int .i64 d.index, .int .i64 d.logTerm, .int .i64 d.commit, .bool d.ok, .slice ao d.ents.length ac, .slice bo d.conf.length bc, .string d.data, .bool d.last]) := by rw [← hV4]; exact K1_4.out.far (by omega) _
  have K2_5 : Hid (BlockIs V4 (w.heap.size + 1) 31 [.int .i64 0, .int .i64 0, .int .i64 0, .int .i64 0, .int .i64 0, .int .i64 0, .int .i64 0, .bool false, .slice none 0 0, .slice none 0 0, .string ⟨#[]⟩, .bool false]) := by rw [← hV4]; exact K2_4.out.far (by omega) _
  have K3_5 : Hid (BlockIs V4 (w.heap.size + 1 + 1) 31 [.int .i64 d.kind, .int .i64 d.src, .int .i64 d.dst, .int .i64 d.term, .int .i64 d.index, .int .i64 0, .int .i64 0, .bool false, .slice none 0 0, .slice none 0 0, .string ⟨#[]⟩, .bool false]) := by rw [← hV4]; exact K3_4.out.set 4 _
  have B_5 : Hid (Below w.heap.size w V4) := by rw [← hV4]; exact B_4.out.setCell (by show _ ≤ _ + 1 + 1; omega) _
  clear K1_4 K2_4 K3_4 B_4
  have p5 := K1_5.out.cell (j := 5) rfl
  have o5 := K3_5.out.cell (j := 5) rfl
  have f5 := K3_5.out.thaw 5
  obtain ⟨V5, hV5⟩ : ∃ V, V4.setCell ⟨w.heap.size + 1 + 1, 5, none⟩ (.int .i64 d.logTerm) = V := ⟨_, rfl⟩
  have K1_6 : Hid (BlockIs V5 w.heap.size 25 [.int .i64 d.kind, .int .i64 d.src, .int .i64 d.dst, .int .i64 d.term, .int .i64 d.index, .int .i64 d.logTerm, .int .i64 d.commit, .bool d.ok, .slice ao d.ents.length ac, .slice bo d.conf.length bc, .string d.data, .bool d.last]) := by rw [← hV5]; exact K1_5.out.far (by omega) _
  have K2_6 : Hid (BlockIs V5 (w.heap.size + 1) 31 [.int .i64 0, .int .i64 0, .int .i64 0, .int .i64 0, .int .i64 0, .int .i64 0, .int .i64 0, .bool false, .slice none 0 0, .slice none 0 0, .string ⟨#[]⟩, .bool false]) := by rw [← hV5]; exact K2_5.out.far (by omega) _
  have K3_6 : Hid (BlockIs V5 (w.heap.size + 1 + 1) 31 [.int .i64 d.kind, .int .i64 d.src, .int .i64 d.dst, .int .i64 d.term, .int .i64 d.index, .int .i64 d.logTerm, .int .i64 0, .bool false, .slice none 0 0, .slice none 0 0, .string ⟨#[]⟩, .bool false]) := by rw [← hV5]; exact K3_5.out.set 5 _
  have B_6 : Hid (Below w.heap.size w V5) := by rw [← hV5]; exact B_5.out.setCell (by show _ ≤ _ + 1 + 1; omega) _
  clear K1_5 K2_5 K3_5 B_5
  have p6 := K1_6.out.cell (j := 6) rfl
  have o6 := K3_6.out.cell (j := 6) rfl
  have f6 := K3_6.out.thaw 6
  obtain ⟨V6, hV6⟩ : ∃ V, V5.setCell ⟨w.heap.size + 1 + 1, 6, none⟩ (.int .i64 d.commit) = V := ⟨_, rfl⟩
  have K1_7 : Hid (BlockIs V6 w.heap.size 25 [.int .i64 d.kind, .int .i64 d.src, .int .i64 d.dst, .int .i64 d.term, .int .i64 d.index, .int .i64 d.logTerm, .int .i64 d.commit, .bool d.ok, .slice ao d.ents.length ac, .slice bo d.conf.length bc, .string d.data, .bool d.last]) := by rw [← hV6]; exact K1_6.out.far (by omega) _
  have K2_7 : Hid (BlockIs V6 (w.heap.size + 1) 31 [.int .i64 0, .int .i64 0, .int .i64 0, .int .i64 0, .int .i64 0, .int .i64 0, .int .i64 0, .bool false, .slice none 0 0, .slice none 0 0, .string ⟨#[]⟩, .bool false]) := by rw [← hV6]; exact K2_6.out.far (by omega) _
  have K3_7 : Hid (BlockIs V6 (w.heap.size + 1 + 1) 31 [.int .i64 d.kind, .int .i64 d.src, .int .i64 d.dst, .int .i64 d.term, .int .i64 d.index, .int .i64 d.logTerm, .int .i64 d.commit, .bool false, .slice none 0 0, .slice none 0 0, .string ⟨#[]⟩, .bool false]) := by rw [← hV6]; exact K3_6.out.set 6 _
  have B_7 : Hid (Below w.heap.size w V6) := by rw [← hV6]; exact B_6.out.setCell (by show _ ≤ _ + 1 + 1; omega) _
  clear K1_6 K2_6 K3_6 B_6
  have p7 := K1_7.out.cell (j := 7) rfl
  have o7 := K3_7.out.cell (j := 7) rfl
  have f7 := K3_7.out.thaw 7
  obtain ⟨V7, hV7⟩ : ∃ V, V6.setCell ⟨w.heap.size + 1 + 1, 7, none⟩ (.bool d.ok) = V := ⟨_, rfl⟩
  have K1_8 : Hid (BlockIs V7 w.heap.size 25 [.int .i64 d.kind, .int .i64 d.src, .int .i64 d.dst, .int .i64 d.term, .int .i64 d.index, .int .i64 d.logTerm, .int .i64 d.commit, .bool d.ok, .slice ao d.ents.length ac, .slice bo d.conf.length bc, .string d.data, .bool d.last]) := by rw [← hV7]; exact K1_7.out.far (by omega) _
  have K2_8 : Hid (BlockIs V7 (w.heap.size + 1) 31 [.int .i64 0, .int .i64 0, .int .i64 0, .int .i64 0, .int .i64 0, .int .i64 0, .int .i64 0, .bool false, .slice none 0 0, .slice none 0 0, .string ⟨#[]⟩, .bool false]) := by rw [← hV7]; exact K2_7.out.far (by omega) _
  have K3_8 : Hid (BlockIs V7 (w.heap.size + 1 + 1) 31 [.int .i64 d.kind, .int .i64 d.src, .int .i64 d.dst, .int .i64 d.term, .int .i64 d.index, .int .i64 d.logTerm, .int .i64 d.commit, .bool d.ok, .slice none 0 0, .slice none 0 0, .string ⟨#[]⟩, .bool false]) := by rw [← hV7]; exact K3_7.out.set 7 _
  have B_8 : Hid (Below w.heap.size w V7) := by rw [← hV7]; exact B_7.out.setCell (by show _ ≤ _ + 1 + 1; omega) _
  clear K1_7 K2_7 K3_7 B_7
  have p8 := K1_8.out.cell (j := 8) rfl
  go_enter Tryd.func6, Tryd.ntmps6
  go_wp2_with fail
  refine (C.out _ (HA.out.on B_8.out)).mono ?_
  rintro e w8 ⟨rfl, hbl, b1⟩
  obtain ⟨g8, hg8⟩ : ∃ g, V7.heap.size = g := ⟨_, rfl⟩
  rw [hg8] at hbl b1 ⊢
  have hl8 : w.heap.size + 1 + 1 < g8 := by rw [← hg8]; exact K3_8.out.lt
  have K1_8b := hid (K1_8.out.on (B := g8) b1 (by omega))
  have K2_8b := hid (K2_8.out.on (B := g8) b1 (by omega))
  have K3_8b := hid (K3_8.out.on (B := g8) b1 (by omega))
  have B_8b := hid (B_8.out.trans (b1.mono (by omega)))
  have L_8b := hid hbl
  clear hbl b1 C K1_8 K2_8 K3_8 B_8 hg8 p8
  have o8 := K3_8b.out.cell (j := 8) rfl
  have f8 := K3_8b.out.thaw 8
  obtain ⟨V8, hV8⟩ : ∃ V, w8.setCell ⟨w.heap.size + 1 + 1, 8, none⟩ (.slice (some ⟨g8, 0, none⟩) d.ents.length d.ents.length) = V := ⟨_, rfl⟩
  have K1_9 : Hid (BlockIs V8 w.heap.size 25 [.int .i64 d.kind, .int .i64 d.src, .int .i64 d.dst, .int .i64 d.term, .int .i64 d.index, .int .i64 d.logTerm, .int .i64 d.commit, .bool d.ok, .slice ao d.ents.length ac, .slice bo d.conf.length bc, .string d.data, .bool d.last]) := by rw [← hV8]; exact K1_8b.out.far (by omega) _
  have K2_9 : Hid (BlockIs V8 (w.heap.size + 1) 31 [.int .i64 0, .int .i64 0, .int .i64 0, .int .i64 0, .int .i64 0, .int .i64 0, .int .i64 0, .bool false, .slice none 0 0, .slice none 0 0, .string ⟨#[]⟩, .bool false]) := by rw [← hV8]; exact K2_8b.out.far (by omega) _
  have K3_9 : Hid (BlockIs V8 (w.heap.size + 1 + 1) 31 [.int .i64 d.kind, .int .i64 d.src, .int .i64 d.dst, .int .i64 d.term, .int .i64 d.index, .int .i64 d.logTerm, .int .i64 d.commit, .bool d.ok, .slice (some ⟨g8, 0, none⟩) d.ents.length d.ents.length, .slice none 0 0, .string ⟨#[]⟩, .bool false]) := by rw [← hV8]; exact K3_8b.out.set 8 _
  have B_9 : Hid (Below w.heap.size w V8) := by rw [← hV8]; exact B_8b.out.setCell (by show _ ≤ _ + 1 + 1; omega) _
  have L_9 : Hid (BlockIs V8 g8 43 (entCells d.ents)) := by rw [← hV8]; exact L_8b.out.far (by omega) _
  clear K1_8b K2_8b K3_8b B_8b L_8b
  have p9 := K1_9.out.cell (j := 9) rfl
  go_wp2_with fail
  refine (D.out _ (HI.out.on B_9.out)).mono ?_
  rintro e w9 ⟨rfl, hbl, b1⟩
  obtain ⟨g9, hg9⟩ : ∃ g, V8.heap.size = g := ⟨_, rfl⟩
  rw [hg9] at hbl b1 ⊢
  have hl9 : w.heap.size + 1 + 1 < g9 := by rw [← hg9]; exact K3_9.out.lt
  have hl89 : g8 < g9 := by rw [← hg9]; exact L_9.out.lt
  have K1_9b := hid (K1_9.out.on (B := g9) b1 (by omega))
  have K2_9b := hid (K2_9.out.on (B := g9) b1 (by omega))
  have K3_9b := hid (K3_9.out.on (B := g9) b1 (by omega))
  have L_9b := hid (L_9.out.on (B := g9) b1 (by omega))
  have B_9b := hid (B_9.out.trans (b1.mono (by omega)))
  have I_9b := hid hbl
  clear hbl b1 D K1_9 K2_9 K3_9 B_9 hg9 p9 L_9
  have o9 := K3_9b.out.cell (j := 9) rfl
  have f9 := K3_9b.out.thaw 9
  obtain ⟨V9, hV9⟩ : ∃ V, w9.setCell ⟨w.heap.size + 1 + 1, 9, none⟩ (.slice (some ⟨g9, 0, none⟩) d.conf.length d.conf.length) = V := ⟨_, rfl⟩
  have K1_10 : Hid (BlockIs V9 w.heap.size 25 [.int .i64 d.kind, .int .i64 d.src, .int .i64 d.dst, .int .i64 d.term, .int .i64 d.index, .int .i64 d.logTerm, .int .i64 d.commit, .bool d.ok, .slice ao d.ents.length ac, .slice bo d.conf.length bc, .string d.data, .bool d.last]) := by rw [← hV9]; exact K1_9b.out.far (by omega) _
  have K2_10 : Hid (BlockIs V9 (w.heap.size + 1) 31 [.int .i64 0, .int .i64 0, .int .i64 0, .int .i64 0, .int .i64 0, .int .i64 0, .int .i64 0, .bool false, .slice none 0 0, .slice none 0 0, .string ⟨#[]⟩, .bool false]) := by rw [← hV9]; exact K2_9b.out.far (by omega) _
  have K3_10 : Hid (BlockIs V9 (w.heap.size + 1 + 1) 31 [.int .i64 d.kind, .int .i64 d.src, .int .i64 d.dst, .int .i64 d.term, .int .i64 d.index, .int .i64 d.logTerm, .int .i64 d.commit, .bool d.ok, .slice (some ⟨g8, 0, none⟩) d.ents.length d.ents.length, .slice (some ⟨g9, 0, none⟩) d.conf.length d.conf.length, .string ⟨#[]⟩, .bool false]) := by rw [← hV9]; exact K3_9b.out.set 9 _
  have B_10 : Hid (Below w.heap.size w V9) := by rw [← hV9]; exact B_9b.out.setCell (by show _ ≤ _ + 1 + 1; omega) _
  have L_10 : Hid (BlockIs V9 g8 43 (entCells d.ents)) := by rw [← hV9]; exact L_9b.out.far (by omega) _
  have I_10 : Hid (BlockIs V9 g9 3 (intCells d.conf)) := by rw [← hV9]; exact I_9b.out.far (by omega) _
  clear K1_9b K2_9b K3_9b B_9b L_9b I_9b
  have p10 := K1_10.out.cell (j := 10) rfl
  have o10 := K3_10.out.cell (j := 10) rfl
  have f10 := K3_10.out.thaw 10
  obtain ⟨V10, hV10⟩ : ∃ V, V9.setCell ⟨w.heap.size + 1 + 1, 10, none⟩ (.string d.data) = V := ⟨_, rfl⟩
  have K1_11 : Hid (BlockIs V10 w.heap.size 25 [.int .i64 d.kind, .int .i64 d.src, .int .i64 d.dst, .int .i64 d.term, .int .i64 d.index, .int .i64 d.logTerm, .int .i64 d.commit, .bool d.ok, .slice ao d.ents.length ac, .slice bo d.conf.length bc, .string d.data, .bool d.last]) := by rw [← hV10]; exact K1_10.out.far (by omega) _
  have K2_11 : Hid (BlockIs V10 (w.heap.size + 1) 31 [.int .i64 0, .int .i64 0, .int .i64 0, .int .i64 0, .int .i64 0, .int .i64 0, .int .i64 0, .bool false, .slice none 0 0, .slice none 0 0, .string ⟨#[]⟩, .bool false]) := by rw [← hV10]; exact K2_10.out.far (by omega) _
  have K3_11 : Hid (BlockIs V10 (w.heap.size + 1 + 1) 31 [.int .i64 d.kind, .int .i64 d.src, .int .i64 d.dst, .int .i64 d.term, .int .i64 d.index, .int .i64 d.logTerm, .int .i64 d.commit, .bool d.ok, .slice (some ⟨g8, 0, none⟩) d.ents.length d.ents.length, .slice (some ⟨g9, 0, none⟩) d.conf.length d.conf.length, .string d.data, .bool false]) := by rw [← hV10]; exact K3_10.out.set 10 _
  have B_11 : Hid (Below w.heap.size w V10) := by rw [← hV10]; exact B_10.out.setCell (by show _ ≤ _ + 1 + 1; omega) _
  have L_11 : Hid (BlockIs V10 g8 43 (entCells d.ents)) := by rw [← hV10]; exact L_10.out.far (by omega) _
  have I_11 : Hid (BlockIs V10 g9 3 (intCells d.conf)) := by rw [← hV10]; exact I_10.out.far (by omega) _
  clear K1_10 K2_10 K3_10 B_10 L_10 I_10
  have p11 := K1_11.out.cell (j := 11) rfl
  have o11 := K3_11.out.cell (j := 11) rfl
  have f11 := K3_11.out.thaw 11
  obtain ⟨V11, hV11⟩ : ∃ V, V10.setCell ⟨w.heap.size + 1 + 1, 11, none⟩ (.bool d.last) = V := ⟨_, rfl⟩
  have K1_12 : Hid (BlockIs V11 w.heap.size 25 [.int .i64 d.kind, .int .i64 d.src, .int .i64 d.dst, .int .i64 d.term, .int .i64 d.index, .int .i64 d.logTerm, .int .i64 d.commit, .bool d.ok, .slice ao d.ents.length ac, .slice bo d.conf.length bc, .string d.data, .bool d.last]) := by rw [← hV11]; exact K1_11.out.far (by omega) _
  have K2_12 : Hid (BlockIs V11 (w.heap.size + 1) 31 [.int .i64 0, .int .i64 0, .int .i64 0, .int .i64 0, .int .i64 0, .int .i64 0, .int .i64 0, .bool false, .slice none 0 0, .slice none 0 0, .string ⟨#[]⟩, .bool false]) := by rw [← hV11]; exact K2_11.out.far (by omega) _
  have K3_12 : Hid (BlockIs V11 (w.heap.size + 1 + 1) 31 [.int .i64 d.kind, .int .i64 d.src, .int .i64 d.dst, .int .i64 d.term, .int .i64 d.index, .int .i64 d.logTerm, .int .i64 d.commit, .bool d.ok, .slice (some ⟨g8, 0, none⟩) d.ents.length d.ents.length, .slice (some ⟨g9, 0, none⟩) d.conf.length d.conf.length, .string d.data, .bool d.last]) := by rw [← hV11]; exact K3_11.out.set 11 _
  have B_12 : Hid (Below w.heap.size w V11) := by rw [← hV11]; exact B_11.out.setCell (by show _ ≤ _ + 1 + 1; omega) _
  have L_12 : Hid (BlockIs V11 g8 43 (entCells d.ents)) := by rw [← hV11]; exact L_11.out.far (by omega) _
  have I_12 : Hid (BlockIs V11 g9 3 (intCells d.conf)) := by rw [← hV11]; exact I_11.out.far (by omega) _
  clear K1_11 K2_11 K3_11 B_11 L_11 I_11
  obtain ⟨VL, hVL⟩ : ∃ V, V11.setRow (w.heap.size + 1) #[.int .i64 d.kind, .int .i64 d.src, .int .i64 d.dst, .int .i64 d.term, .int .i64 d.index, .int .i64 d.logTerm, .int .i64 d.commit, .bool d.ok, .slice (some ⟨g8, 0, none⟩) d.ents.length d.ents.length, .slice (some ⟨g9, 0, none⟩) d.conf.length d.conf.length, .string d.data, .bool d.last] = V := ⟨_, rfl⟩
  have KL : BlockIs VL (w.heap.size + 1) 31 [.int .i64 d.kind, .int .i64 d.src, .int .i64 d.dst, .int .i64 d.term, .int .i64 d.index, .int .i64 d.logTerm, .int .i64 d.commit, .bool d.ok, .slice (some ⟨g8, 0, none⟩) d.ents.length d.ents.length, .slice (some ⟨g9, 0, none⟩) d.conf.length d.conf.length, .string d.data, .bool d.last] := by rw [← hVL]; exact whole_block K2_12.out _
  have BL : Hid (Below w.heap.size w VL) := by rw [← hVL]; exact below_setRow B_12.out (by omega) _
  have LL : Hid (BlockIs VL g8 43 (entCells d.ents)) := by rw [← hVL]; exact whole_other L_12.out (by omega) _
  have IL : Hid (BlockIs VL g9 3 (intCells d.conf)) := by rw [← hVL]; exact whole_other I_12.out (by omega) _
  have r0 := KL.cell (j := 0) rfl
  have r1 := KL.cell (j := 1) rfl
  have r2 := KL.cell (j := 2) rfl
  have r3 := KL.cell (j := 3) rfl
  have r4 := KL.cell (j := 4) rfl
  have r5 := KL.cell (j := 5) rfl
  have r6 := KL.cell (j := 6) rfl
  have r7 := KL.cell (j := 7) rfl
  have r8 := KL.cell (j := 8) rfl
  have r9 := KL.cell (j := 9) rfl
  have r10 := KL.cell (j := 10) rfl
  have r11 := KL.cell (j := 11) rfl
  clear KL
  go_wp2_with (first | (refine wpList_load_whole Tryd.underlying31 msg_size K3_12.out rfl rfl _ rfl rfl ?_) | (refine wpList_store_whole msg_size K2_12.out rfl rfl _ _ rfl _ rfl rfl rfl (msgCells_all d _ _ _ _) ?_; rw [hVL]) | fail)
  refine bodyPost_ret (v := .agg #[.int .i64 d.kind, .int .i64 d.src, .int .i64 d.dst, .int .i64 d.term, .int .i64 d.index, .int .i64 d.logTerm, .int .i64 d.commit, .bool d.ok, .slice (some ⟨g8, 0, none⟩) d.ents.length d.ents.length, .slice (some ⟨g9, 0, none⟩) d.conf.length d.conf.length, .string d.data, .bool d.last]) (by simp [results, Tryd.results6, go_sem, r0, r1, r2, r3, r4, r5, r6, r7, r8, r9, r10, r11]) rfl ⟨g8, g9, by omega, by omega, rfl, LL.out, IL.out, BL.out⟩
end Go.Proofs.YtkdbdgeaceigfaaDoor
