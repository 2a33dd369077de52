/-
  The walk of laws.toNode: a node is laid anew, in memory of its own.
  The walks of laws.toFile, toFileS, toDisk: a disk is laid anew, in memory of its own.
-/
import Derived.Test.YtihgkocfgjihhaaGreatDoorJoint1
import Derived.Test.YtihgkocfgjihhaaGreatDoorJoint8
import Derived.Test.YtihgkocfgjihhaaGreatDoorJoint5
import Derived.Test.YtihgkocfgjihhaaGreatDoorJoint15
import Derived.Test.YtihgkocfgjihhaaGreatDoorJoint7
import Derived.OwnWalk
namespace Go.Proofs.YtihgkocfgjihhaaGreatDoor
open Go.RowKit Go.Sort

/-- where a node laid anew has its rows -/
def nodeNew (d : NodeD) (g5 g8 g12 g13 : Nat) : NodeL := ⟨some ⟨g5, 0, none⟩, d.conf.length, some ⟨g8, 0, none⟩, d.ents.length, some ⟨g12, 0, none⟩, d.votes.length, some ⟨g13, 0, none⟩, d.peers.length⟩
/-- its rows stand by themselves -/
structure NodeOwn (W : World) (d : NodeD) (g5 g8 g12 g13 : Nat) : Prop where
  conf : BlockIs W g5 3 (intCells d.conf)
  ents : BlockIs W g8 160 (entCells d.ents)
  votes : BlockIs W g12 3 (intCells d.votes)
  peers : BlockIs W g13 195 (peerCells d.peers)
theorem NodeOwn.at {W : World} {d : NodeD} {g5 g8 g12 g13 : Nat} (h : NodeOwn W d g5 g8 g12 g13) : NodeAt W d (nodeNew d g5 g8 g12 g13) :=
  ⟨intsAt_of (r := []) (by rw [List.append_nil]; exact h.conf), entsAt_of (r := []) (by rw [List.append_nil]; exact h.ents), intsAt_of (r := []) (by rw [List.append_nil]; exact h.votes), peersAt_of (r := []) (by rw [List.append_nil]; exact h.peers)⟩
theorem nodeCells_all (d : NodeD) (p : NodeL) : (#[.int .i64 d.id, .int .i64 d.term, .int .i64 d.vote, .int .i64 d.role, .int .i64 d.lead, .slice p.co d.conf.length p.cc, .int .i64 d.start, .int .i64 d.sterm, .slice p.eo d.ents.length p.ec, .int .i64 d.commit, .int .i64 d.clock, .int .i64 d.limit, .slice p.vo d.votes.length p.vc, .slice p.po d.peers.length p.pc] : Array Value).all (·.oneCell') = true := by simp [Value.oneCell']
set_option maxRecDepth 1000000 in
set_option maxHeartbeats 4000000 in
theorem toNode_any (d : NodeD) (p : NodeL) (hs : d.Small) (w : World) (ha : NodeAt w d p) :
    Calls Tryz.prog 42 #[.agg #[.int .i64 d.id, .int .i64 d.term, .int .i64 d.vote, .int .i64 d.role, .int .i64 d.lead, .slice p.co d.conf.length p.cc, .int .i64 d.start, .int .i64 d.sterm, .slice p.eo d.ents.length p.ec, .int .i64 d.commit, .int .i64 d.clock, .int .i64 d.limit, .slice p.vo d.votes.length p.vc, .slice p.po d.peers.length p.pc]] w fun e w' => ∃ g5 g8 g12 g13, w.heap.size ≤ g5 ∧ g5 < g8 ∧ g8 < g12 ∧ g12 < g13 ∧ e = .returned (.agg #[.int .i64 d.id, .int .i64 d.term, .int .i64 d.vote, .int .i64 d.role, .int .i64 d.lead, .slice (some ⟨g5, 0, none⟩) d.conf.length d.conf.length, .int .i64 d.start, .int .i64 d.sterm, .slice (some ⟨g8, 0, none⟩) d.ents.length d.ents.length, .int .i64 d.commit, .int .i64 d.clock, .int .i64 d.limit, .slice (some ⟨g12, 0, none⟩) d.votes.length d.votes.length, .slice (some ⟨g13, 0, none⟩) d.peers.length d.peers.length]) ∧ NodeOwn w' d g5 g8 g12 g13 ∧ Below w.heap.size w w' := by
  have C := hid (fun w ha => toIntS_any p.co d.conf p.cc hs.conf w ha)
  have D := hid (fun w ha => toLog_any d.start d.sterm p.eo d.ents p.ec hs.ents w ha)
  have E := hid (fun w ha => toIntS_any p.vo d.votes p.vc hs.votes w ha)
  have F := hid (fun w ha => toPeerS_any p.po d.peers p.pc hs.peers w ha)
  obtain ⟨hb0, hx1, hx2, hx3⟩ := four_log w (.cells #[.int .i64 d.id, .int .i64 d.term, .int .i64 d.vote, .int .i64 d.role, .int .i64 d.lead, .slice p.co d.conf.length p.cc, .int .i64 d.start, .int .i64 d.sterm, .slice p.eo d.ents.length p.ec, .int .i64 d.commit, .int .i64 d.clock, .int .i64 d.limit, .slice p.vo d.votes.length p.vc, .slice p.po d.peers.length p.pc] 39) (.cells #[.int .i64 0, .int .i64 0, .int .i64 0, .int .i64 0, .int .i64 0, .slice none 0 0, .int .i64 0, .int .i64 0, .slice none 0 0, .int .i64 0, .int .i64 0, .int .i64 0, .slice none 0 0, .slice none 0 0] 61) (.cells #[.int .i64 0, .int .i64 0, .int .i64 0, .int .i64 0, .int .i64 0, .slice none 0 0, .int .i64 0, .int .i64 0, .slice none 0 0, .int .i64 0, .int .i64 0, .int .i64 0, .slice none 0 0, .slice none 0 0] 61)
  obtain ⟨W0, hW0⟩ : ∃ W0, ((w.alloc (.cells #[.int .i64 d.id, .int .i64 d.term, .int .i64 d.vote, .int .i64 d.role, .int .i64 d.lead, .slice p.co d.conf.length p.cc, .int .i64 d.start, .int .i64 d.sterm, .slice p.eo d.ents.length p.ec, .int .i64 d.commit, .int .i64 d.clock, .int .i64 d.limit, .slice p.vo d.votes.length p.vc, .slice p.po d.peers.length p.pc] 39)).alloc (.cells #[.int .i64 0, .int .i64 0, .int .i64 0, .int .i64 0, .int .i64 0, .slice none 0 0, .int .i64 0, .int .i64 0, .slice none 0 0, .int .i64 0, .int .i64 0, .int .i64 0, .slice none 0 0, .slice none 0 0] 61)).alloc (.cells #[.int .i64 0, .int .i64 0, .int .i64 0, .int .i64 0, .int .i64 0, .slice none 0 0, .int .i64 0, .int .i64 0, .slice none 0 0, .int .i64 0, .int .i64 0, .int .i64 0, .slice none 0 0, .slice none 0 0] 61) = W0 := ⟨_, rfl⟩
  rw [hW0] at hb0 hx1 hx2 hx3
  have hs0 : w.heap.size + 1 + 1 < W0.heap.size := BlockIs.lt (show BlockIs _ _ 61 [.int .i64 0, .int .i64 0, .int .i64 0, .int .i64 0, .int .i64 0, .slice none 0 0, .int .i64 0, .int .i64 0, .slice none 0 0, .int .i64 0, .int .i64 0, .int .i64 0, .slice none 0 0, .slice none 0 0] from hx3)
  have K1_0 := hid (show BlockIs W0 _ 39 [.int .i64 d.id, .int .i64 d.term, .int .i64 d.vote, .int .i64 d.role, .int .i64 d.lead, .slice p.co d.conf.length p.cc, .int .i64 d.start, .int .i64 d.sterm, .slice p.eo d.ents.length p.ec, .int .i64 d.commit, .int .i64 d.clock, .int .i64 d.limit, .slice p.vo d.votes.length p.vc, .slice p.po d.peers.length p.pc] from hx1)
  have K2_0 := hid (show BlockIs W0 _ 61 [.int .i64 0, .int .i64 0, .int .i64 0, .int .i64 0, .int .i64 0, .slice none 0 0, .int .i64 0, .int .i64 0, .slice none 0 0, .int .i64 0, .int .i64 0, .int .i64 0, .slice none 0 0, .slice none 0 0] from hx2)
  have K3_0 := hid (show BlockIs W0 (w.heap.size + 1 + 1) 61 [.int .i64 0, .int .i64 0, .int .i64 0, .int .i64 0, .int .i64 0, .slice none 0 0, .int .i64 0, .int .i64 0, .slice none 0 0, .int .i64 0, .int .i64 0, .int .i64 0, .slice none 0 0, .slice none 0 0] from hx3)
  have B_0 := hid hb0
  have HA := hid ha
  clear hb0 hx1 hx2 hx3 ha hs
  have p0 := K1_0.out.cell (j := 0) rfl
  have o0 := K3_0.out.cell (j := 0) rfl
  have f0 := K3_0.out.thaw 0
  obtain ⟨V0, hV0⟩ : ∃ V, W0.setCell ⟨w.heap.size + 1 + 1, 0, none⟩ (.int .i64 d.id) = V := ⟨_, rfl⟩
  have K1_1 : Hid (BlockIs V0 w.heap.size 39 [.int .i64 d.id, .int .i64 d.term, .int .i64 d.vote, .int .i64 d.role, .int .i64 d.lead, .slice p.co d.conf.length p.cc, .int .i64 d.start, .int .i64 d.sterm, .slice p.eo d.ents.length p.ec, .int .i64 d.commit, .int .i64 d.clock, .int .i64 d.limit, .slice p.vo d.votes.length p.vc, .slice p.po d.peers.length p.pc]) := by rw [← hV0]; exact K1_0.out.far (by omega) _
  have K2_1 : Hid (BlockIs V0 (w.heap.size + 1) 61 [.int .i64 0, .int .i64 0, .int .i64 0, .int .i64 0, .int .i64 0, .slice none 0 0, .int .i64 0, .int .i64 0, .slice none 0 0, .int .i64 0, .int .i64 0, .int .i64 0, .slice none 0 0, .slice none 0 0]) := by rw [← hV0]; exact K2_0.out.far (by omega) _
  have K3_1 : Hid (BlockIs V0 (w.heap.size + 1 + 1) 61 [.int .i64 d.id, .int .i64 0, .int .i64 0, .int .i64 0, .int .i64 0, .slice none 0 0, .int .i64 0, .int .i64 0, .slice none 0 0, .int .i64 0, .int .i64 0, .int .i64 0, .slice none 0 0, .slice none 0 0]) := by rw [← hV0]; exact K3_0.out.set 0 _
  have B_1 : Hid (Below w.heap.size w V0) := by rw [← hV0]; exact B_0.out.setCell (by show _ ≤ _ + 1 + 1; omega) _
  clear K1_0 K2_0 K3_0 B_0
  have p1 := K1_1.out.cell (j := 1) rfl
  have o1 := K3_1.out.cell (j := 1) rfl
  have f1 := K3_1.out.thaw 1
  obtain ⟨V1, hV1⟩ : ∃ V, V0.setCell ⟨w.heap.size + 1 + 1, 1, none⟩ (.int .i64 d.term) = V := ⟨_, rfl⟩
  have K1_2 : Hid (BlockIs V1 w.heap.size 39 [.int .i64 d.id, .int .i64 d.term, .int .i64 d.vote, .int .i64 d.role, .int .i64 d.lead, .slice p.co d.conf.length p.cc, .int .i64 d.start, .int .i64 d.sterm, .slice p.eo d.ents.length p.ec, .int .i64 d.commit, .int .i64 d.clock, .int .i64 d.limit, .slice p.vo d.votes.length p.vc, .slice p.po d.peers.length p.pc]) := by rw [← hV1]; exact K1_1.out.far (by omega) _
  have K2_2 : Hid (BlockIs V1 (w.heap.size + 1) 61 [.int .i64 0, .int .i64 0, .int .i64 0, .int .i64 0, .int .i64 0, .slice none 0 0, .int .i64 0, .int .i64 0, .slice none 0 0, .int .i64 0, .int .i64 0, .int .i64 0, .slice none 0 0, .slice none 0 0]) := by rw [← hV1]; exact K2_1.out.far (by omega) _
  have K3_2 : Hid (BlockIs V1 (w.heap.size + 1 + 1) 61 [.int .i64 d.id, .int .i64 d.term, .int .i64 0, .int .i64 0, .int .i64 0, .slice none 0 0, .int .i64 0, .int .i64 0, .slice none 0 0, .int .i64 0, .int .i64 0, .int .i64 0, .slice none 0 0, .slice none 0 0]) := by rw [← hV1]; exact K3_1.out.set 1 _
  have B_2 : Hid (Below w.heap.size w V1) := by rw [← hV1]; exact B_1.out.setCell (by show _ ≤ _ + 1 + 1; omega) _
  clear K1_1 K2_1 K3_1 B_1
  have p2 := K1_2.out.cell (j := 2) rfl
  have o2 := K3_2.out.cell (j := 2) rfl
  have f2 := K3_2.out.thaw 2
  obtain ⟨V2, hV2⟩ : ∃ V, V1.setCell ⟨w.heap.size + 1 + 1, 2, none⟩ (.int .i64 d.vote) = V := ⟨_, rfl⟩
  have K1_3 : Hid (BlockIs V2 w.heap.size 39 [.int .i64 d.id, .int .i64 d.term, .int .i64 d.vote, .int .i64 d.role, .int .i64 d.lead, .slice p.co d.conf.length p.cc, .int .i64 d.start, .int .i64 d.sterm, .slice p.eo d.ents.length p.ec, .int .i64 d.commit, .int .i64 d.clock, .int .i64 d.limit, .slice p.vo d.votes.length p.vc, .slice p.po d.peers.length p.pc]) := by rw [← hV2]; exact K1_2.out.far (by omega) _
  have K2_3 : Hid (BlockIs V2 (w.heap.size + 1) 61 [.int .i64 0, .int .i64 0, .int .i64 0, .int .i64 0, .int .i64 0, .slice none 0 0, .int .i64 0, .int .i64 0, .slice none 0 0, .int .i64 0, .int .i64 0, .int .i64 0, .slice none 0 0, .slice none 0 0]) := by rw [← hV2]; exact K2_2.out.far (by omega) _
  have K3_3 : Hid (BlockIs V2 (w.heap.size + 1 + 1) 61 [.int .i64 d.id, .int .i64 d.term, .int .i64 d.vote, .int .i64 0, .int .i64 0, .slice none 0 0, .int .i64 0, .int .i64 0, .slice none 0 0, .int .i64 0, .int .i64 0, .int .i64 0, .slice none 0 0, .slice none 0 0]) := by rw [← hV2]; exact K3_2.out.set 2 _
  have B_3 : Hid (Below w.heap.size w V2) := by rw [← hV2]; exact B_2.out.setCell (by show _ ≤ _ + 1 + 1; omega) _
  clear K1_2 K2_2 K3_2 B_2
  have p3 := K1_3.out.cell (j := 3) rfl
  have o3 := K3_3.out.cell (j := 3) rfl
  have f3 := K3_3.out.thaw 3
  obtain ⟨V3, hV3⟩ : ∃ V, V2.setCell ⟨w.heap.size + 1 + 1, 3, none⟩ (.int .i64 d.role) = V := ⟨_, rfl⟩
  have K1_4 : Hid (BlockIs V3 w.heap.size 39 [.int .i64 d.id, .int .i64 d.term, .int .i64 d.vote, .int .i64 d.role, .int .i64 d.lead, .slice p.co d.conf.length p.cc, .int .i64 d.start, .int .i64 d.sterm, .slice p.eo d.ents.length p.ec, .int .i64 d.commit, .int .i64 d.clock, .int .i64 d.limit, .slice p.vo d.votes.length p.vc, .slice p.po d.peers.length p.pc]) := by rw [← hV3]; exact K1_3.out.far (by omega) _
  have K2_4 : Hid (BlockIs V3 (w.heap.size + 1) 61 [.int .i64 0, .int .i64 0, .int .i64 0, .int .i64 0, .int .i64 0, .slice none 0 0, .int .i64 0, .int .i64 0, .slice none 0 0, .int .i64 0, .int .i64 0, .int .i64 0, .slice none 0 0, .slice none 0 0]) := by rw [← hV3]; exact K2_3.out.far (by omega) _
  have K3_4 : Hid (BlockIs V3 (w.heap.size + 1 + 1) 61 [.int .i64 d.id, .int .i64 d.term, .int .i64 d.vote, .int .i64 d.role, .int .i64 0, .slice none 0 0, .int .i64 0, .int .i64 0, .slice none 0 0, .int .i64 0, .int .i64 0, .int .i64 0, .slice none 0 0, .slice none 0 0]) := by rw [← hV3]; exact K3_3.out.set 3 _
  have B_4 : Hid (Below w.heap.size w V3) := by rw [← hV3]; exact B_3.out.setCell (by show _ ≤ _ + 1 + 1; omega) _
  clear K1_3 K2_3 K3_3 B_3
  have p4 := K1_4.out.cell (j := 4) rfl
  have o4 := K3_4.out.cell (j := 4) rfl
  have f4 := K3_4.out.thaw 4
  obtain ⟨V4, hV4⟩ : ∃ V, V3.setCell ⟨w.heap.size + 1 + 1, 4, none⟩ (.int .i64 d.lead) = V := ⟨_, rfl⟩
  have K1_5 : Hid (BlockIs V4 w.heap.size 39 [.int .i64 d.id, .int .i64 d.term, .int .i64 d.vote, .int .i64 d.role, .int .i64 d.lead, .slice p.co d.conf.length p.cc, .int .i64 d.start, .int .i64 d.sterm, .slice p.eo d.ents.length p.ec, .int .i64 d.commit, .int .i64 d.clock, .int .i64 d.limit, .slice p.vo d.votes.length p.vc, .slice p.po d.peers.length p.pc]) := by rw [← hV4]; exact K1_4.out.far (by omega) _
  have K2_5 : Hid (BlockIs V4 (w.heap.size + 1) 61 [.int .i64 0, .int .i64 0, .int .i64 0, .int .i64 0, .int .i64 0, .slice none 0 0, .int .i64 0, .int .i64 0, .slice none 0 0, .int .i64 0, .int .i64 0, .int .i64 0, .slice none 0 0, .slice none 0 0]) := by rw [← hV4]; exact K2_4.out.far (by omega) _
  have K3_5 : Hid (BlockIs V4 (w.heap.size + 1 + 1) 61 [.int .i64 d.id, .int .i64 d.term, .int .i64 d.vote, .int .i64 d.role, .int .i64 d.lead, .slice none 0 0, .int .i64 0, .int .i64 0, .slice none 0 0, .int .i64 0, .int .i64 0, .int .i64 0, .slice none 0 0, .slice none 0 0]) := by rw [← hV4]; exact K3_4.out.set 4 _
  have B_5 : Hid (Below w.heap.size w V4) := by rw [← hV4]; exact B_4.out.setCell (by show _ ≤ _ + 1 + 1; omega) _
  clear K1_4 K2_4 K3_4 B_4
  have p5 := K1_5.out.cell (j := 5) rfl
  go_enter Tryz.func42, Tryz.ntmps42
  go_wp2_with fail
  refine (C.out _ (HA.out.conf.on B_5.out)).mono ?_
  rintro e w5 ⟨rfl, hbl, b1⟩
  obtain ⟨g5, hg5⟩ : ∃ g, V4.heap.size = g := ⟨_, rfl⟩
  rw [hg5] at hbl b1 ⊢
  have hl5 : w.heap.size + 1 + 1 < g5 := by rw [← hg5]; exact K3_5.out.lt
  have K1_6 := hid (K1_5.out.on (B := g5) b1 (by omega))
  have K2_6 := hid (K2_5.out.on (B := g5) b1 (by omega))
  have K3_6 := hid (K3_5.out.on (B := g5) b1 (by omega))
  have B_6 := hid (B_5.out.trans (b1.mono (by omega)))
  have C_6 := hid hbl
  clear hbl b1 C K1_5 K2_5 K3_5 B_5 hg5 p5
  have o5 := K3_6.out.cell (j := 5) rfl
  have f5 := K3_6.out.thaw 5
  obtain ⟨V5, hV5⟩ : ∃ V, w5.setCell ⟨w.heap.size + 1 + 1, 5, none⟩ (.slice (some ⟨g5, 0, none⟩) d.conf.length d.conf.length) = V := ⟨_, rfl⟩
  have K1_7 : Hid (BlockIs V5 w.heap.size 39 [.int .i64 d.id, .int .i64 d.term, .int .i64 d.vote, .int .i64 d.role, .int .i64 d.lead, .slice p.co d.conf.length p.cc, .int .i64 d.start, .int .i64 d.sterm, .slice p.eo d.ents.length p.ec, .int .i64 d.commit, .int .i64 d.clock, .int .i64 d.limit, .slice p.vo d.votes.length p.vc, .slice p.po d.peers.length p.pc]) := by rw [← hV5]; exact K1_6.out.far (by omega) _
  have K2_7 : Hid (BlockIs V5 (w.heap.size + 1) 61 [.int .i64 0, .int .i64 0, .int .i64 0, .int .i64 0, .int .i64 0, .slice none 0 0, .int .i64 0, .int .i64 0, .slice none 0 0, .int .i64 0, .int .i64 0, .int .i64 0, .slice none 0 0, .slice none 0 0]) := by rw [← hV5]; exact K2_6.out.far (by omega) _
  have K3_7 : Hid (BlockIs V5 (w.heap.size + 1 + 1) 61 [.int .i64 d.id, .int .i64 d.term, .int .i64 d.vote, .int .i64 d.role, .int .i64 d.lead, .slice (some ⟨g5, 0, none⟩) d.conf.length d.conf.length, .int .i64 0, .int .i64 0, .slice none 0 0, .int .i64 0, .int .i64 0, .int .i64 0, .slice none 0 0, .slice none 0 0]) := by rw [← hV5]; exact K3_6.out.set 5 _
  have B_7 : Hid (Below w.heap.size w V5) := by rw [← hV5]; exact B_6.out.setCell (by show _ ≤ _ + 1 + 1; omega) _
  have C_7 : Hid (BlockIs V5 g5 3 (intCells d.conf)) := by rw [← hV5]; exact C_6.out.far (by omega) _
  clear K1_6 K2_6 K3_6 B_6 C_6
  have p6 := K1_7.out.cell (j := 6) rfl
  have p7 := K1_7.out.cell (j := 7) rfl
  have p8 := K1_7.out.cell (j := 8) rfl
  go_wp2_with fail
  refine (D.out _ (HA.out.ents.on B_7.out)).mono ?_
  rintro e w8 ⟨g8, hgl, rfl, hbl, b1⟩
  have hl8 : w.heap.size + 1 + 1 < g8 := Nat.lt_of_lt_of_le K3_7.out.lt hgl
  have hm8_C : g5 < g8 := Nat.lt_of_lt_of_le C_7.out.lt hgl
  have K1_8 := hid (K1_7.out.on (B := V5.heap.size) b1 K1_7.out.lt)
  have K2_8 := hid (K2_7.out.on (B := V5.heap.size) b1 K2_7.out.lt)
  have K3_8 := hid (K3_7.out.on (B := V5.heap.size) b1 K3_7.out.lt)
  have C_8 := hid (C_7.out.on (B := V5.heap.size) b1 C_7.out.lt)
  have B_8 := hid (B_7.out.trans (b1.mono B_7.out.size))
  have L_8 := hid hbl
  clear hbl b1 D K1_7 K2_7 K3_7 B_7 hgl p6 p7 p8 C_7
  have o6 := K3_8.out.cell (j := 6) rfl
  have f6 := K3_8.out.thaw 6
  obtain ⟨V6, hV6⟩ : ∃ V, w8.setCell ⟨w.heap.size + 1 + 1, 6, none⟩ (.int .i64 d.start) = V := ⟨_, rfl⟩
  have K1_9 : Hid (BlockIs V6 w.heap.size 39 [.int .i64 d.id, .int .i64 d.term, .int .i64 d.vote, .int .i64 d.role, .int .i64 d.lead, .slice p.co d.conf.length p.cc, .int .i64 d.start, .int .i64 d.sterm, .slice p.eo d.ents.length p.ec, .int .i64 d.commit, .int .i64 d.clock, .int .i64 d.limit, .slice p.vo d.votes.length p.vc, .slice p.po d.peers.length p.pc]) := by rw [← hV6]; exact K1_8.out.far (by omega) _
  have K2_9 : Hid (BlockIs V6 (w.heap.size + 1) 61 [.int .i64 0, .int .i64 0, .int .i64 0, .int .i64 0, .int .i64 0, .slice none 0 0, .int .i64 0, .int .i64 0, .slice none 0 0, .int .i64 0, .int .i64 0, .int .i64 0, .slice none 0 0, .slice none 0 0]) := by rw [← hV6]; exact K2_8.out.far (by omega) _
  have K3_9 : Hid (BlockIs V6 (w.heap.size + 1 + 1) 61 [.int .i64 d.id, .int .i64 d.term, .int .i64 d.vote, .int .i64 d.role, .int .i64 d.lead, .slice (some ⟨g5, 0, none⟩) d.conf.length d.conf.length, .int .i64 d.start, .int .i64 0, .slice none 0 0, .int .i64 0, .int .i64 0, .int .i64 0, .slice none 0 0, .slice none 0 0]) := by rw [← hV6]; exact K3_8.out.set 6 _
  have B_9 : Hid (Below w.heap.size w V6) := by rw [← hV6]; exact B_8.out.setCell (by show _ ≤ _ + 1 + 1; omega) _
  have C_9 : Hid (BlockIs V6 g5 3 (intCells d.conf)) := by rw [← hV6]; exact C_8.out.far (by omega) _
  have L_9 : Hid (BlockIs V6 g8 160 (entCells d.ents)) := by rw [← hV6]; exact L_8.out.far (by omega) _
  clear K1_8 K2_8 K3_8 B_8 C_8 L_8
  have o7 := K3_9.out.cell (j := 7) rfl
  have f7 := K3_9.out.thaw 7
  obtain ⟨V7, hV7⟩ : ∃ V, V6.setCell ⟨w.heap.size + 1 + 1, 7, none⟩ (.int .i64 d.sterm) = V := ⟨_, rfl⟩
  have K1_10 : Hid (BlockIs V7 w.heap.size 39 [.int .i64 d.id, .int .i64 d.term, .int .i64 d.vote, .int .i64 d.role, .int .i64 d.lead, .slice p.co d.conf.length p.cc, .int .i64 d.start, .int .i64 d.sterm, .slice p.eo d.ents.length p.ec, .int .i64 d.commit, .int .i64 d.clock, .int .i64 d.limit, .slice p.vo d.votes.length p.vc, .slice p.po d.peers.length p.pc]) := by rw [← hV7]; exact K1_9.out.far (by omega) _
  have K2_10 : Hid (BlockIs V7 (w.heap.size + 1) 61 [.int .i64 0, .int .i64 0, .int .i64 0, .int .i64 0, .int .i64 0, .slice none 0 0, .int .i64 0, .int .i64 0, .slice none 0 0, .int .i64 0, .int .i64 0, .int .i64 0, .slice none 0 0, .slice none 0 0]) := by rw [← hV7]; exact K2_9.out.far (by omega) _
  have K3_10 : Hid (BlockIs V7 (w.heap.size + 1 + 1) 61 [.int .i64 d.id, .int .i64 d.term, .int .i64 d.vote, .int .i64 d.role, .int .i64 d.lead, .slice (some ⟨g5, 0, none⟩) d.conf.length d.conf.length, .int .i64 d.start, .int .i64 d.sterm, .slice none 0 0, .int .i64 0, .int .i64 0, .int .i64 0, .slice none 0 0, .slice none 0 0]) := by rw [← hV7]; exact K3_9.out.set 7 _
  have B_10 : Hid (Below w.heap.size w V7) := by rw [← hV7]; exact B_9.out.setCell (by show _ ≤ _ + 1 + 1; omega) _
  have C_10 : Hid (BlockIs V7 g5 3 (intCells d.conf)) := by rw [← hV7]; exact C_9.out.far (by omega) _
  have L_10 : Hid (BlockIs V7 g8 160 (entCells d.ents)) := by rw [← hV7]; exact L_9.out.far (by omega) _
  clear K1_9 K2_9 K3_9 B_9 C_9 L_9
  have o8 := K3_10.out.cell (j := 8) rfl
  have f8 := K3_10.out.thaw 8
  obtain ⟨V8, hV8⟩ : ∃ V, V7.setCell ⟨w.heap.size + 1 + 1, 8, none⟩ (.slice (some ⟨g8, 0, none⟩) d.ents.length d.ents.length) = V := ⟨_, rfl⟩
  have K1_11 : Hid (BlockIs V8 w.heap.size 39 [.int .i64 d.id, .int .i64 d.term, .int .i64 d.vote, .int .i64 d.role, .int .i64 d.lead, .slice p.co d.conf.length p.cc, .int .i64 d.start, .int .i64 d.sterm, .slice p.eo d.ents.length p.ec, .int .i64 d.commit, .int .i64 d.clock, .int .i64 d.limit, .slice p.vo d.votes.length p.vc, .slice p.po d.peers.length p.pc]) := by rw [← hV8]; exact K1_10.out.far (by omega) _
  have K2_11 : Hid (BlockIs V8 (w.heap.size + 1) 61 [.int .i64 0, .int .i64 0, .int .i64 0, .int .i64 0, .int .i64 0, .slice none 0 0, .int .i64 0, .int .i64 0, .slice none 0 0, .int .i64 0, .int .i64 0, .int .i64 0, .slice none 0 0, .slice none 0 0]) := by rw [← hV8]; exact K2_10.out.far (by omega) _
  have K3_11 : Hid (BlockIs V8 (w.heap.size + 1 + 1) 61 [.int .i64 d.id, .int .i64 d.term, .int .i64 d.vote, .int .i64 d.role, .int .i64 d.lead, .slice (some ⟨g5, 0, none⟩) d.conf.length d.conf.length, .int .i64 d.start, .int .i64 d.sterm, .slice (some ⟨g8, 0, none⟩) d.ents.length d.ents.length, .int .i64 0, .int .i64 0, .int .i64 0, .slice none 0 0, .slice none 0 0]) := by rw [← hV8]; exact K3_10.out.set 8 _
  have B_11 : Hid (Below w.heap.size w V8) := by rw [← hV8]; exact B_10.out.setCell (by show _ ≤ _ + 1 + 1; omega) _
  have C_11 : Hid (BlockIs V8 g5 3 (intCells d.conf)) := by rw [← hV8]; exact C_10.out.far (by omega) _
  have L_11 : Hid (BlockIs V8 g8 160 (entCells d.ents)) := by rw [← hV8]; exact L_10.out.far (by omega) _
  clear K1_10 K2_10 K3_10 B_10 C_10 L_10
  have p9 := K1_11.out.cell (j := 9) rfl
  have o9 := K3_11.out.cell (j := 9) rfl
  have f9 := K3_11.out.thaw 9
  obtain ⟨V9, hV9⟩ : ∃ V, V8.setCell ⟨w.heap.size + 1 + 1, 9, none⟩ (.int .i64 d.commit) = V := ⟨_, rfl⟩
  have K1_12 : Hid (BlockIs V9 w.heap.size 39 [.int .i64 d.id, .int .i64 d.term, .int .i64 d.vote, .int .i64 d.role, .int .i64 d.lead, .slice p.co d.conf.length p.cc, .int .i64 d.start, .int .i64 d.sterm, .slice p.eo d.ents.length p.ec, .int .i64 d.commit, .int .i64 d.clock, .int .i64 d.limit, .slice p.vo d.votes.length p.vc, .slice p.po d.peers.length p.pc]) := by rw [← hV9]; exact K1_11.out.far (by omega) _
  have K2_12 : Hid (BlockIs V9 (w.heap.size + 1) 61 [.int .i64 0, .int .i64 0, .int .i64 0, .int .i64 0, .int .i64 0, .slice none 0 0, .int .i64 0, .int .i64 0, .slice none 0 0, .int .i64 0, .int .i64 0, .int .i64 0, .slice none 0 0, .slice none 0 0]) := by rw [← hV9]; exact K2_11.out.far (by omega) _
  have K3_12 : Hid (BlockIs V9 (w.heap.size + 1 + 1) 61 [.int .i64 d.id, .int .i64 d.term, .int .i64 d.vote, .int .i64 d.role, .int .i64 d.lead, .slice (some ⟨g5, 0, none⟩) d.conf.length d.conf.length, .int .i64 d.start, .int .i64 d.sterm, .slice (some ⟨g8, 0, none⟩) d.ents.length d.ents.length, .int .i64 d.commit, .int .i64 0, .int .i64 0, .slice none 0 0, .slice none 0 0]) := by rw [← hV9]; exact K3_11.out.set 9 _
  have B_12 : Hid (Below w.heap.size w V9) := by rw [← hV9]; exact B_11.out.setCell (by show _ ≤ _ + 1 + 1; omega) _
  have C_12 : Hid (BlockIs V9 g5 3 (intCells d.conf)) := by rw [← hV9]; exact C_11.out.far (by omega) _
  have L_12 : Hid (BlockIs V9 g8 160 (entCells d.ents)) := by rw [← hV9]; exact L_11.out.far (by omega) _
  clear K1_11 K2_11 K3_11 B_11 C_11 L_11
  have p10 := K1_12.out.cell (j := 10) rfl
  have o10 := K3_12.out.cell (j := 10) rfl
  have f10 := K3_12.out.thaw 10
  obtain ⟨V10, hV10⟩ : ∃ V, V9.setCell ⟨w.heap.size + 1 + 1, 10, none⟩ (.int .i64 d.clock) = V := ⟨_, rfl⟩
  have K1_13 : Hid (BlockIs V10 w.heap.size 39 [.int .i64 d.id, .int .i64 d.term, .int .i64 d.vote, .int .i64 d.role, .int .i64 d.lead, .slice p.co d.conf.length p.cc, .int .i64 d.start, .int .i64 d.sterm, .slice p.eo d.ents.length p.ec, .int .i64 d.commit, .int .i64 d.clock, .int .i64 d.limit, .slice p.vo d.votes.length p.vc, .slice p.po d.peers.length p.pc]) := by rw [← hV10]; exact K1_12.out.far (by omega) _
  have K2_13 : Hid (BlockIs V10 (w.heap.size + 1) 61 [.int .i64 0, .int .i64 0, .int .i64 0, .int .i64 0, .int .i64 0, .slice none 0 0, .int .i64 0, .int .i64 0, .slice none 0 0, .int .i64 0, .int .i64 0, .int .i64 0, .slice none 0 0, .slice none 0 0]) := by rw [← hV10]; exact K2_12.out.far (by omega) _
  have K3_13 : Hid (BlockIs V10 (w.heap.size + 1 + 1) 61 [.int .i64 d.id, .int .i64 d.term, .int .i64 d.vote, .int .i64 d.role, .int .i64 d.lead, .slice (some ⟨g5, 0, none⟩) d.conf.length d.conf.length, .int .i64 d.start, .int .i64 d.sterm, .slice (some ⟨g8, 0, none⟩) d.ents.length d.ents.length, .int .i64 d.commit, .int .i64 d.clock, .int .i64 0, .slice none 0 0, .slice none 0 0]) := by rw [← hV10]; exact K3_12.out.set 10 _
  have B_13 : Hid (Below w.heap.size w V10) := by rw [← hV10]; exact B_12.out.setCell (by show _ ≤ _ + 1 + 1; omega) _
  have C_13 : Hid (BlockIs V10 g5 3 (intCells d.conf)) := by rw [← hV10]; exact C_12.out.far (by omega) _
  have L_13 : Hid (BlockIs V10 g8 160 (entCells d.ents)) := by rw [← hV10]; exact L_12.out.far (by omega) _
  clear K1_12 K2_12 K3_12 B_12 C_12 L_12
  have p11 := K1_13.out.cell (j := 11) rfl
  have o11 := K3_13.out.cell (j := 11) rfl
  have f11 := K3_13.out.thaw 11
  obtain ⟨V11, hV11⟩ : ∃ V, V10.setCell ⟨w.heap.size + 1 + 1, 11, none⟩ (.int .i64 d.limit) = V := ⟨_, rfl⟩
  have K1_14 : Hid (BlockIs V11 w.heap.size 39 [.int .i64 d.id, .int .i64 d.term, .int .i64 d.vote, .int .i64 d.role, .int .i64 d.lead, .slice p.co d.conf.length p.cc, .int .i64 d.start, .int .i64 d.sterm, .slice p.eo d.ents.length p.ec, .int .i64 d.commit, .int .i64 d.clock, .int .i64 d.limit, .slice p.vo d.votes.length p.vc, .slice p.po d.peers.length p.pc]) := by rw [← hV11]; exact K1_13.out.far (by omega) _
  have K2_14 : Hid (BlockIs V11 (w.heap.size + 1) 61 [.int .i64 0, .int .i64 0, .int .i64 0, .int .i64 0, .int .i64 0, .slice none 0 0, .int .i64 0, .int .i64 0, .slice none 0 0, .int .i64 0, .int .i64 0, .int .i64 0, .slice none 0 0, .slice none 0 0]) := by rw [← hV11]; exact K2_13.out.far (by omega) _
  have K3_14 : Hid (BlockIs V11 (w.heap.size + 1 + 1) 61 [.int .i64 d.id, .int .i64 d.term, .int .i64 d.vote, .int .i64 d.role, .int .i64 d.lead, .slice (some ⟨g5, 0, none⟩) d.conf.length d.conf.length, .int .i64 d.start, .int .i64 d.sterm, .slice (some ⟨g8, 0, none⟩) d.ents.length d.ents.length, .int .i64 d.commit, .int .i64 d.clock, .int .i64 d.limit, .slice none 0 0, .slice none 0 0]) := by rw [← hV11]; exact K3_13.out.set 11 _
  have B_14 : Hid (Below w.heap.size w V11) := by rw [← hV11]; exact B_13.out.setCell (by show _ ≤ _ + 1 + 1; omega) _
  have C_14 : Hid (BlockIs V11 g5 3 (intCells d.conf)) := by rw [← hV11]; exact C_13.out.far (by omega) _
  have L_14 : Hid (BlockIs V11 g8 160 (entCells d.ents)) := by rw [← hV11]; exact L_13.out.far (by omega) _
  clear K1_13 K2_13 K3_13 B_13 C_13 L_13
  have p12 := K1_14.out.cell (j := 12) rfl
  go_wp2_with fail
  refine (E.out _ (HA.out.votes.on B_14.out)).mono ?_
  rintro e w12 ⟨rfl, hbl, b1⟩
  obtain ⟨g12, hg12⟩ : ∃ g, V11.heap.size = g := ⟨_, rfl⟩
  rw [hg12] at hbl b1 ⊢
  have hl12 : w.heap.size + 1 + 1 < g12 := by rw [← hg12]; exact K3_14.out.lt
  have hm12_C : g5 < g12 := by rw [← hg12]; exact C_14.out.lt
  have hm12_L : g8 < g12 := by rw [← hg12]; exact L_14.out.lt
  have K1_15 := hid (K1_14.out.on (B := g12) b1 (by omega))
  have K2_15 := hid (K2_14.out.on (B := g12) b1 (by omega))
  have K3_15 := hid (K3_14.out.on (B := g12) b1 (by omega))
  have C_15 := hid (C_14.out.on (B := g12) b1 (by omega))
  have L_15 := hid (L_14.out.on (B := g12) b1 (by omega))
  have B_15 := hid (B_14.out.trans (b1.mono (by omega)))
  have V_15 := hid hbl
  clear hbl b1 E K1_14 K2_14 K3_14 B_14 hg12 p12 C_14 L_14
  have o12 := K3_15.out.cell (j := 12) rfl
  have f12 := K3_15.out.thaw 12
  obtain ⟨V12, hV12⟩ : ∃ V, w12.setCell ⟨w.heap.size + 1 + 1, 12, none⟩ (.slice (some ⟨g12, 0, none⟩) d.votes.length d.votes.length) = V := ⟨_, rfl⟩
  have K1_16 : Hid (BlockIs V12 w.heap.size 39 [.int .i64 d.id, .int .i64 d.term, .int .i64 d.vote, .int .i64 d.role, .int .i64 d.lead, .slice p.co d.conf.length p.cc, .int .i64 d.start, .int .i64 d.sterm, .slice p.eo d.ents.length p.ec, .int .i64 d.commit, .int .i64 d.clock, .int .i64 d.limit, .slice p.vo d.votes.length p.vc, .slice p.po d.peers.length p.pc]) := by rw [← hV12]; exact K1_15.out.far (by omega) _
  have K2_16 : Hid (BlockIs V12 (w.heap.size + 1) 61 [.int .i64 0, .int .i64 0, .int .i64 0, .int .i64 0, .int .i64 0, .slice none 0 0, .int .i64 0, .int .i64 0, .slice none 0 0, .int .i64 0, .int .i64 0, .int .i64 0, .slice none 0 0, .slice none 0 0]) := by rw [← hV12]; exact K2_15.out.far (by omega) _
  have K3_16 : Hid (BlockIs V12 (w.heap.size + 1 + 1) 61 [.int .i64 d.id, .int .i64 d.term, .int .i64 d.vote, .int .i64 d.role, .int .i64 d.lead, .slice (some ⟨g5, 0, none⟩) d.conf.length d.conf.length, .int .i64 d.start, .int .i64 d.sterm, .slice (some ⟨g8, 0, none⟩) d.ents.length d.ents.length, .int .i64 d.commit, .int .i64 d.clock, .int .i64 d.limit, .slice (some ⟨g12, 0, none⟩) d.votes.length d.votes.length, .slice none 0 0]) := by rw [← hV12]; exact K3_15.out.set 12 _
  have B_16 : Hid (Below w.heap.size w V12) := by rw [← hV12]; exact B_15.out.setCell (by show _ ≤ _ + 1 + 1; omega) _
  have C_16 : Hid (BlockIs V12 g5 3 (intCells d.conf)) := by rw [← hV12]; exact C_15.out.far (by omega) _
  have L_16 : Hid (BlockIs V12 g8 160 (entCells d.ents)) := by rw [← hV12]; exact L_15.out.far (by omega) _
  have V_16 : Hid (BlockIs V12 g12 3 (intCells d.votes)) := by rw [← hV12]; exact V_15.out.far (by omega) _
  clear K1_15 K2_15 K3_15 B_15 C_15 L_15 V_15
  have p13 := K1_16.out.cell (j := 13) rfl
  go_wp2_with fail
  refine (F.out _ (HA.out.peers.on B_16.out)).mono ?_
  rintro e w13 ⟨rfl, hbl, b1⟩
  obtain ⟨g13, hg13⟩ : ∃ g, V12.heap.size = g := ⟨_, rfl⟩
  rw [hg13] at hbl b1 ⊢
  have hl13 : w.heap.size + 1 + 1 < g13 := by rw [← hg13]; exact K3_16.out.lt
  have hm13_C : g5 < g13 := by rw [← hg13]; exact C_16.out.lt
  have hm13_L : g8 < g13 := by rw [← hg13]; exact L_16.out.lt
  have hm13_V : g12 < g13 := by rw [← hg13]; exact V_16.out.lt
  have K1_17 := hid (K1_16.out.on (B := g13) b1 (by omega))
  have K2_17 := hid (K2_16.out.on (B := g13) b1 (by omega))
  have K3_17 := hid (K3_16.out.on (B := g13) b1 (by omega))
  have C_17 := hid (C_16.out.on (B := g13) b1 (by omega))
  have L_17 := hid (L_16.out.on (B := g13) b1 (by omega))
  have V_17 := hid (V_16.out.on (B := g13) b1 (by omega))
  have B_17 := hid (B_16.out.trans (b1.mono (by omega)))
  have P_17 := hid hbl
  clear hbl b1 F K1_16 K2_16 K3_16 B_16 hg13 p13 C_16 L_16 V_16
  have o13 := K3_17.out.cell (j := 13) rfl
  have f13 := K3_17.out.thaw 13
  obtain ⟨V13, hV13⟩ : ∃ V, w13.setCell ⟨w.heap.size + 1 + 1, 13, none⟩ (.slice (some ⟨g13, 0, none⟩) d.peers.length d.peers.length) = V := ⟨_, rfl⟩
  have K1_18 : Hid (BlockIs V13 w.heap.size 39 [.int .i64 d.id, .int .i64 d.term, .int .i64 d.vote, .int .i64 d.role, .int .i64 d.lead, .slice p.co d.conf.length p.cc, .int .i64 d.start, .int .i64 d.sterm, .slice p.eo d.ents.length p.ec, .int .i64 d.commit, .int .i64 d.clock, .int .i64 d.limit, .slice p.vo d.votes.length p.vc, .slice p.po d.peers.length p.pc]) := by rw [← hV13]; exact K1_17.out.far (by omega) _
  have K2_18 : Hid (BlockIs V13 (w.heap.size + 1) 61 [.int .i64 0, .int .i64 0, .int .i64 0, .int .i64 0, .int .i64 0, .slice none 0 0, .int .i64 0, .int .i64 0, .slice none 0 0, .int .i64 0, .int .i64 0, .int .i64 0, .slice none 0 0, .slice none 0 0]) := by rw [← hV13]; exact K2_17.out.far (by omega) _
  have K3_18 : Hid (BlockIs V13 (w.heap.size + 1 + 1) 61 [.int .i64 d.id, .int .i64 d.term, .int .i64 d.vote, .int .i64 d.role, .int .i64 d.lead, .slice (some ⟨g5, 0, none⟩) d.conf.length d.conf.length, .int .i64 d.start, .int .i64 d.sterm, .slice (some ⟨g8, 0, none⟩) d.ents.length d.ents.length, .int .i64 d.commit, .int .i64 d.clock, .int .i64 d.limit, .slice (some ⟨g12, 0, none⟩) d.votes.length d.votes.length, .slice (some ⟨g13, 0, none⟩) d.peers.length d.peers.length]) := by rw [← hV13]; exact K3_17.out.set 13 _
  have B_18 : Hid (Below w.heap.size w V13) := by rw [← hV13]; exact B_17.out.setCell (by show _ ≤ _ + 1 + 1; omega) _
  have C_18 : Hid (BlockIs V13 g5 3 (intCells d.conf)) := by rw [← hV13]; exact C_17.out.far (by omega) _
  have L_18 : Hid (BlockIs V13 g8 160 (entCells d.ents)) := by rw [← hV13]; exact L_17.out.far (by omega) _
  have V_18 : Hid (BlockIs V13 g12 3 (intCells d.votes)) := by rw [← hV13]; exact V_17.out.far (by omega) _
  have P_18 : Hid (BlockIs V13 g13 195 (peerCells d.peers)) := by rw [← hV13]; exact P_17.out.far (by omega) _
  clear K1_17 K2_17 K3_17 B_17 C_17 L_17 V_17 P_17
  obtain ⟨VL, hVL⟩ : ∃ V, V13.setRow (w.heap.size + 1) #[.int .i64 d.id, .int .i64 d.term, .int .i64 d.vote, .int .i64 d.role, .int .i64 d.lead, .slice (some ⟨g5, 0, none⟩) d.conf.length d.conf.length, .int .i64 d.start, .int .i64 d.sterm, .slice (some ⟨g8, 0, none⟩) d.ents.length d.ents.length, .int .i64 d.commit, .int .i64 d.clock, .int .i64 d.limit, .slice (some ⟨g12, 0, none⟩) d.votes.length d.votes.length, .slice (some ⟨g13, 0, none⟩) d.peers.length d.peers.length] = V := ⟨_, rfl⟩
  have KL : BlockIs VL (w.heap.size + 1) 61 [.int .i64 d.id, .int .i64 d.term, .int .i64 d.vote, .int .i64 d.role, .int .i64 d.lead, .slice (some ⟨g5, 0, none⟩) d.conf.length d.conf.length, .int .i64 d.start, .int .i64 d.sterm, .slice (some ⟨g8, 0, none⟩) d.ents.length d.ents.length, .int .i64 d.commit, .int .i64 d.clock, .int .i64 d.limit, .slice (some ⟨g12, 0, none⟩) d.votes.length d.votes.length, .slice (some ⟨g13, 0, none⟩) d.peers.length d.peers.length] := by rw [← hVL]; exact whole_block K2_18.out _
  have BL : Hid (Below w.heap.size w VL) := by rw [← hVL]; exact below_setRow B_18.out (by omega) _
  have CL : Hid (BlockIs VL g5 3 (intCells d.conf)) := by rw [← hVL]; exact whole_other C_18.out (by omega) _
  have LL : Hid (BlockIs VL g8 160 (entCells d.ents)) := by rw [← hVL]; exact whole_other L_18.out (by omega) _
  have VL' : Hid (BlockIs VL g12 3 (intCells d.votes)) := by rw [← hVL]; exact whole_other V_18.out (by omega) _
  have PL : Hid (BlockIs VL g13 195 (peerCells d.peers)) := by rw [← hVL]; exact whole_other P_18.out (by omega) _
  have r0 := KL.cell (j := 0) rfl
  have r1 := KL.cell (j := 1) rfl
  have r2 := KL.cell (j := 2) rfl
  have r3 := KL.cell (j := 3) rfl
  have r4 := KL.cell (j := 4) rfl
  have r5 := KL.cell (j := 5) rfl
  have r6 := KL.cell (j := 6) rfl
  have r7 := KL.cell (j := 7) rfl
  have r8 := KL.cell (j := 8) rfl
  have r9 := KL.cell (j := 9) rfl
  have r10 := KL.cell (j := 10) rfl
  have r11 := KL.cell (j := 11) rfl
  have r12 := KL.cell (j := 12) rfl
  have r13 := KL.cell (j := 13) rfl
  clear KL
  go_wp2_with (first | (refine wpList_load_whole Tryz.underlying61 node_size K3_18.out rfl rfl _ rfl rfl ?_) | (refine wpList_store_whole node_size K2_18.out rfl rfl _ _ rfl _ rfl rfl rfl (by simp [Value.oneCell']) ?_; rw [hVL]) | fail)
  refine bodyPost_ret (v := .agg #[.int .i64 d.id, .int .i64 d.term, .int .i64 d.vote, .int .i64 d.role, .int .i64 d.lead, .slice (some ⟨g5, 0, none⟩) d.conf.length d.conf.length, .int .i64 d.start, .int .i64 d.sterm, .slice (some ⟨g8, 0, none⟩) d.ents.length d.ents.length, .int .i64 d.commit, .int .i64 d.clock, .int .i64 d.limit, .slice (some ⟨g12, 0, none⟩) d.votes.length d.votes.length, .slice (some ⟨g13, 0, none⟩) d.peers.length d.peers.length]) (by simp [results, Tryz.results42, go_sem, r0, r1, r2, r3, r4, r5, r6, r7, r8, r9, r10, r11, r12, r13]) rfl ⟨g5, g8, g12, g13, by omega, by omega, by omega, by omega, rfl, ⟨CL.out, LL.out, VL'.out, PL.out⟩, BL.out⟩
end Go.Proofs.YtihgkocfgjihhaaGreatDoor

namespace Go.Proofs.YtihgkocfgjihhaaGreatDoor
open Go.RowKit

set_option maxRecDepth 1000000 in
theorem toFile_any (f : FileD) (w : World) :
    Calls Tryz.prog 145 #[f.value] w fun e w' => e = .returned f.value ∧ Below w.heap.size w w' := by
  unfold FileD.value
  go_enter Tryz.func145, Tryz.ntmps145
  go_wp2
  refine bodyPost_ret (v := .agg #[.string f.name, .string f.text, .int .i64 f.kept]) (by simp [results, Tryz.results145, go_sem]) rfl ⟨rfl, below_more (below_more (below_more (Below.refl _ w) _) _) _⟩

theorem toFile_info : (Tryz.prog.info? 82).map (fun i => (i.zero, i.size, i.bytes)) = some (some (.agg #[.string ByteArray.empty, .string ByteArray.empty, .int .i64 0]), 3, 40) := by kernel_rfl

/-- a file's three cells are written -/
theorem put_file {w w2 : World} {g k : Nat} {t : TypeId} {l : List FileD} {r : List Value} (hk : k < l.length) (h : BlockIs w g t (fileCells (l.take k) ++ r)) (hr : r.length = (l.length - k) * 3) {B : Nat} (hb : Below B w w2) (hg : g < B) :
    (∃ x y z, w2.cell? ⟨g, k * 3, none⟩ = some x ∧ w2.cell? ⟨g, k * 3 + 1, none⟩ = some y ∧ w2.cell? ⟨g, k * 3 + 2, none⟩ = some z) ∧ (∀ j, w2.frozen? ⟨g, j, none⟩ = false) ∧
    ∃ r', r'.length = (l.length - (k + 1)) * 3 ∧ BlockIs (((w2.setCell ⟨g, k * 3, none⟩ (.string l[k].name)).setCell ⟨g, k * 3 + 1, none⟩ (.string l[k].text)).setCell ⟨g, k * 3 + 2, none⟩ (.int .i64 l[k].kept)) g t (fileCells (l.take (k + 1)) ++ r') := by
  have h2 := h.on hb hg
  have hlen : (fileCells (l.take k)).length = k * 3 := by rw [fileCells_length, List.length_take]; omega
  match r, hr with
  | x :: y :: z :: r', hr =>
    have hs := ((h2.set (k * 3) (.string l[k].name)).set (k * 3 + 1) (.string l[k].text)).set (k * 3 + 2) (.int .i64 l[k].kept)
    have e3 := set_three (fileCells (l.take k)) (.string l[k].name) (.string l[k].text) (.int .i64 l[k].kept) x y z r'
    rw [hlen] at e3
    rw [e3] at hs
    refine ⟨⟨x, y, z, h2.cell ?_, h2.cell ?_, h2.cell ?_⟩, fun j => h2.thaw j, r', ?_, ?_⟩
    · rw [List.getElem?_append_right (by omega), hlen, Nat.sub_self]; rfl
    · rw [List.getElem?_append_right (by omega), hlen, show k * 3 + 1 - k * 3 = 1 by omega]; rfl
    · rw [List.getElem?_append_right (by omega), hlen, show k * 3 + 2 - k * 3 = 2 by omega]; rfl
    · simp at hr; omega
    · rw [fileCells_take l k hk, List.append_assoc]
      exact hs
  | [], hr => simp at hr; omega
  | [_], hr => simp at hr; omega
  | [_, _], hr => simp at hr; omega

theorem made_length (n : Nat) : (madeCells (Value.agg #[.string ByteArray.empty, .string ByteArray.empty, .int .i64 0]).cells (n * 3)).toList.length = n * 3 := by
  simp [madeCells]

set_option maxRecDepth 1000000 in
set_option maxHeartbeats 1000000 in
theorem toFileS_any (ao : Option Addr) (l : List FileD) (cap : Nat) (hl : l.length ≤ 1048576) (w : World) (ha : FilesAt w ao l) :
    Calls Tryz.prog 96 #[.slice ao l.length cap] w fun e w' => e = .returned (.slice (some ⟨w.heap.size, 0, none⟩) l.length l.length) ∧ BlockIs w' w.heap.size 82 (fileCells l) ∧ Below w.heap.size w w' := by
  obtain ⟨i0, hi, hz0, hz1, hz2⟩ := info_parts toFile_info
  have HA := (show Hid (FilesAt w ao l) from ha)
  clear ha
  go_enter Tryz.func96, Tryz.ntmps96
  go_wp2_with (at_make; refine wpList_make_full _ rfl (.tmp 6) (.tmp 6) 23 rfl w.heap.size 82 i0 (.agg #[.string ByteArray.empty, .string ByteArray.empty, .int .i64 0]) 3 Tryz.underlying23 hi hz0 hz1 _ _ _ _ l.length rfl rfl rfl rfl ?b2 ?b3 ?b4 ?_)
  case b2 => rw [hz2]; omega
  case b3 => unfold maxLen; omega
  case b4 => exact Nat.le_refl _
  intro w1 hown hgrow
  have HM := (show Hid _ from BlockIs.made hown)
  have hB1 := (Below.refl w.heap.size w).grown hgrow (Nat.le_refl _) (fun k h => by cases h)
  have B1 := (show Hid (Below w.heap.size w w1) from hB1)
  clear hown hgrow hB1
  go_wp2
  go_loopg [4] l.length (fun g i wr => ∃ (k : Nat), k + g = l.length ∧ i = .int .i64 k ∧ Hid (Below w.heap.size w wr) ∧ ∃ rest, Hid (rest.length = (l.length - k) * 3) ∧ Hid (BlockIs wr w.heap.size 82 (fileCells (l.take k) ++ rest)))
  case atStart => exact ⟨0, by omega, rfl, B1, _, made_length l.length, HM⟩
  case round =>
    obtain ⟨k, hkg, rfl, BR, rest, hrl, FP⟩ := hrel
    clear HM B1
    cases gk with
    | zero =>
      have hlt : ¬ (k : Int) < (l.length : Int) := by omega
      have HP : Hid (BlockIs wr w.heap.size 82 (fileCells l)) := by
        have h0 : rest = [] := List.length_eq_zero_iff.1 (by rw [hrl.out, show l.length - k = 0 by omega])
        have := FP.out
        rw [h0, List.append_nil, List.take_of_length_le (by omega)] at this
        exact this
      clear FP hrl
      go_wp2
      go_ret
      exact ⟨rfl, HP.out, BR.out⟩
    | succ g =>
      have hlt : k < l.length := by omega
      have hlt' : (k : Int) < (l.length : Int) := by omega
      have hne : l ≠ [] := by intro e; rw [e] at hlt; simp at hlt
      obtain ⟨b, off, rfl, hc⟩ := HA.out.on BR.out hne
      obtain ⟨x0, x1, x2⟩ := hc k hlt
      clear hc
      have C := (show Hid _ from toFile_any l[k])
      unfold FileD.value at C
      go_wp2_with fail
      refine (C.out _).mono ?_
      rintro e w2 ⟨rfl, b2⟩
      obtain ⟨⟨z0, z1, z2, y0, y1, y2⟩, hf, r', hr', hnew⟩ := put_file hlt FP.out hrl.out b2 FP.out.lt
      have B2 := (show Hid (Below w.heap.size w w2) from below_via BR.out b2)
      have f0 := hf (k * 3)
      have f1 := hf (k * 3 + 1)
      have f2 := hf (k * 3 + 2)
      have HN := (show Hid _ from hnew)
      have HR := (show Hid _ from hr')
      clear x0 x1 x2 C hf hnew hr' b2 FP hrl BR
      go_wp2
      go_roundg g
      case measure => omega
      case rel => exact ⟨k + 1, by omega, by go_num, ((B2.out.setCell (Nat.le_refl _) _).setCell (Nat.le_refl _) _).setCell (Nat.le_refl _) _, r', HR, HN⟩

/-- three blocks laid one behind the other -/
theorem three_new (w : World) (o p q : Obj) : Below w.heap.size w (((w.alloc o).alloc p).alloc q) ∧ (((w.alloc o).alloc p).alloc q).heap.size = w.heap.size + 3 ∧ (((w.alloc o).alloc p).alloc q).heap[w.heap.size + 1]? = some p ∧ (((w.alloc o).alloc p).alloc q).heap[w.heap.size + 1 + 1]? = some q := by
  refine ⟨below_more (below_more (below_more (Below.refl _ w) _) _) _, ?_, ?_, ?_⟩
  · simp [World.alloc, -World.alloc_eq]
  · show (((w.heap.push o).push p).push q)[w.heap.size + 1]? = some p
    rw [Array.getElem?_push, if_neg (by simp), Array.getElem?_push, if_pos (by simp)]
  · show (((w.heap.push o).push p).push q)[w.heap.size + 1 + 1]? = some q
    rw [Array.getElem?_push, if_pos (by simp)]

set_option maxRecDepth 1000000 in
theorem toDisk_any (ao : Option Addr) (l : List FileD) (cap : Nat) (hl : l.length ≤ 1048576) (w : World) (ha : FilesAt w ao l) :
    Calls Tryz.prog 43 #[.agg #[.slice ao l.length cap]] w fun e w' => ∃ g, w.heap.size ≤ g ∧ e = .returned (.agg #[.slice (some ⟨g, 0, none⟩) l.length l.length]) ∧ BlockIs w' g 82 (fileCells l) ∧ Below w.heap.size w w' := by
  have C := (show Hid _ from fun w ha => toFileS_any ao l cap hl w ha)
  have HA := (show Hid (FilesAt w ao l) from ha)
  clear ha
  have h3 := three_new w (.cells #[.slice ao l.length cap] 42) (.cells #[.slice none 0 0] 25) (.cells #[.slice none 0 0] 25)
  have H3 := (show Hid _ from h3)
  clear h3
  go_enter Tryz.func43, Tryz.ntmps43
  go_wp2_with fail
  refine (C.out _ (HA.out.on H3.out.1)).mono ?_
  rintro e w1 ⟨rfl, hbl, b1⟩
  obtain ⟨hb0, hs0, hx1, hx2⟩ := H3.out
  rw [hs0] at hbl b1 ⊢
  have k1 : BlockIs w1 (w.heap.size + 1) 25 [.slice none 0 0] := BlockIs.on (show BlockIs _ _ _ _ from hx1) b1 (by omega)
  have k2 : BlockIs w1 (w.heap.size + 1 + 1) 25 [.slice none 0 0] := BlockIs.on (show BlockIs _ _ _ _ from hx2) b1 (by omega)
  have c1 := k1.cell (j := 0) rfl
  have c2 := k2.cell (j := 0) rfl
  have f1 := k1.thaw 0
  have f2 := k2.thaw 0
  have B1 := (show Hid (Below w.heap.size w w1) from hb0.trans (b1.mono (by omega)))
  have HB := (show Hid (BlockIs w1 (w.heap.size + 3) 82 (fileCells l)) from hbl)
  clear hbl b1 C H3 hb0 hs0 hx1 hx2 k1 k2
  go_wp2
  refine bodyPost_ret (v := .agg #[.slice (some ⟨w.heap.size + 3, 0, none⟩) l.length l.length]) (by simp [results, Tryz.results43, go_sem, c1]) rfl ⟨_, Nat.le_add_right _ _, rfl, ?_, ?_⟩
  · exact (HB.out.far (by omega) _).far (by omega) _
  · exact (B1.out.setCell (by show _ ≤ _ + 1 + 1; omega) _).setCell (by show _ ≤ _ + 1; omega) _
end Go.Proofs.YtihgkocfgjihhaaGreatDoor
