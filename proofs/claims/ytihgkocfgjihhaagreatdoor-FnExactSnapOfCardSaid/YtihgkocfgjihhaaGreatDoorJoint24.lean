/-
  The walk of laws.eqServer over two servers that are one.
  The walk of laws.markIntS: a list of numbers written over.
-/
import Derived.Test.YtihgkocfgjihhaaGreatDoorJoint21
import Derived.Test.YtihgkocfgjihhaaGreatDoorJoint22
import Derived.Test.YtihgkocfgjihhaaGreatDoorJoint23
import Derived.Test.YtihgkocfgjihhaaGreatDoorJoint1
namespace Go.Proofs.YtihgkocfgjihhaaGreatDoor
open Go.ChangeShapes Go.WideShapes Go.RowKit Go.Deep

set_option maxRecDepth 1000000 in
set_option maxHeartbeats 4000000 in
theorem eqServer_same (d : ServD) (p q : ServL) (hs : d.Small) (w : World) (ha : ServAt w d p) (hb : ServAt w d q) :
    Calls Tryz.prog 18 #[.agg #[.int .i64 d.node.id, .int .i64 d.node.term, .int .i64 d.node.vote, .int .i64 d.node.role, .int .i64 d.node.lead, .slice p.node.co d.node.conf.length p.node.cc, .int .i64 d.node.start, .int .i64 d.node.sterm, .slice p.node.eo d.node.ents.length p.node.ec, .int .i64 d.node.commit, .int .i64 d.node.clock, .int .i64 d.node.limit, .slice p.node.vo d.node.votes.length p.node.vc, .slice p.node.po d.node.peers.length p.node.pc, .slice p.fo d.files.length p.fc, .int .i64 d.jn, .int .i64 d.jtm, .int .i64 d.jvt, .int .i64 d.js, .int .i64 d.jt, .slice p.jo d.jents.length p.jc, .slice p.so d.ss.length p.sc, .slice p.io d.items.length p.ic, .int .i64 d.applied, .string d.stage, .int .i64 d.sat, .int .i64 d.sterm], .agg #[.int .i64 d.node.id, .int .i64 d.node.term, .int .i64 d.node.vote, .int .i64 d.node.role, .int .i64 d.node.lead, .slice q.node.co d.node.conf.length q.node.cc, .int .i64 d.node.start, .int .i64 d.node.sterm, .slice q.node.eo d.node.ents.length q.node.ec, .int .i64 d.node.commit, .int .i64 d.node.clock, .int .i64 d.node.limit, .slice q.node.vo d.node.votes.length q.node.vc, .slice q.node.po d.node.peers.length q.node.pc, .slice q.fo d.files.length q.fc, .int .i64 d.jn, .int .i64 d.jtm, .int .i64 d.jvt, .int .i64 d.js, .int .i64 d.jt, .slice q.jo d.jents.length q.jc, .slice q.so d.ss.length q.sc, .slice q.io d.items.length q.ic, .int .i64 d.applied, .string d.stage, .int .i64 d.sat, .int .i64 d.sterm]] w fun e w' => e = .returned (.bool true) ∧ Below w.heap.size w w' := by
  have HA := hid ha
  have HB := hid hb
  clear ha hb
  obtain ⟨s1, s2, _, _, s5, _, s7, s8, _, _⟩ := hs
  have be := below_more (below_more (Below.refl w.heap.size w) (.cells #[.int .i64 d.node.id, .int .i64 d.node.term, .int .i64 d.node.vote, .int .i64 d.node.role, .int .i64 d.node.lead, .slice p.node.co d.node.conf.length p.node.cc, .int .i64 d.node.start, .int .i64 d.node.sterm, .slice p.node.eo d.node.ents.length p.node.ec, .int .i64 d.node.commit, .int .i64 d.node.clock, .int .i64 d.node.limit, .slice p.node.vo d.node.votes.length p.node.vc, .slice p.node.po d.node.peers.length p.node.pc, .slice p.fo d.files.length p.fc, .int .i64 d.jn, .int .i64 d.jtm, .int .i64 d.jvt, .int .i64 d.js, .int .i64 d.jt, .slice p.jo d.jents.length p.jc, .slice p.so d.ss.length p.sc, .slice p.io d.items.length p.ic, .int .i64 d.applied, .string d.stage, .int .i64 d.sat, .int .i64 d.sterm] 69)) (.cells #[.int .i64 d.node.id, .int .i64 d.node.term, .int .i64 d.node.vote, .int .i64 d.node.role, .int .i64 d.node.lead, .slice q.node.co d.node.conf.length q.node.cc, .int .i64 d.node.start, .int .i64 d.node.sterm, .slice q.node.eo d.node.ents.length q.node.ec, .int .i64 d.node.commit, .int .i64 d.node.clock, .int .i64 d.node.limit, .slice q.node.vo d.node.votes.length q.node.vc, .slice q.node.po d.node.peers.length q.node.pc, .slice q.fo d.files.length q.fc, .int .i64 d.jn, .int .i64 d.jtm, .int .i64 d.jvt, .int .i64 d.js, .int .i64 d.jt, .slice q.jo d.jents.length q.jc, .slice q.so d.ss.length q.sc, .slice q.io d.items.length q.ic, .int .i64 d.applied, .string d.stage, .int .i64 d.sat, .int .i64 d.sterm] 69)
  have x1 : BlockIs ((w.alloc (.cells #[.int .i64 d.node.id, .int .i64 d.node.term, .int .i64 d.node.vote, .int .i64 d.node.role, .int .i64 d.node.lead, .slice p.node.co d.node.conf.length p.node.cc, .int .i64 d.node.start, .int .i64 d.node.sterm, .slice p.node.eo d.node.ents.length p.node.ec, .int .i64 d.node.commit, .int .i64 d.node.clock, .int .i64 d.node.limit, .slice p.node.vo d.node.votes.length p.node.vc, .slice p.node.po d.node.peers.length p.node.pc, .slice p.fo d.files.length p.fc, .int .i64 d.jn, .int .i64 d.jtm, .int .i64 d.jvt, .int .i64 d.js, .int .i64 d.jt, .slice p.jo d.jents.length p.jc, .slice p.so d.ss.length p.sc, .slice p.io d.items.length p.ic, .int .i64 d.applied, .string d.stage, .int .i64 d.sat, .int .i64 d.sterm] 69)).alloc (.cells #[.int .i64 d.node.id, .int .i64 d.node.term, .int .i64 d.node.vote, .int .i64 d.node.role, .int .i64 d.node.lead, .slice q.node.co d.node.conf.length q.node.cc, .int .i64 d.node.start, .int .i64 d.node.sterm, .slice q.node.eo d.node.ents.length q.node.ec, .int .i64 d.node.commit, .int .i64 d.node.clock, .int .i64 d.node.limit, .slice q.node.vo d.node.votes.length q.node.vc, .slice q.node.po d.node.peers.length q.node.pc, .slice q.fo d.files.length q.fc, .int .i64 d.jn, .int .i64 d.jtm, .int .i64 d.jvt, .int .i64 d.js, .int .i64 d.jt, .slice q.jo d.jents.length q.jc, .slice q.so d.ss.length q.sc, .slice q.io d.items.length q.ic, .int .i64 d.applied, .string d.stage, .int .i64 d.sat, .int .i64 d.sterm] 69)) w.heap.size 69 [.int .i64 d.node.id, .int .i64 d.node.term, .int .i64 d.node.vote, .int .i64 d.node.role, .int .i64 d.node.lead, .slice p.node.co d.node.conf.length p.node.cc, .int .i64 d.node.start, .int .i64 d.node.sterm, .slice p.node.eo d.node.ents.length p.node.ec, .int .i64 d.node.commit, .int .i64 d.node.clock, .int .i64 d.node.limit, .slice p.node.vo d.node.votes.length p.node.vc, .slice p.node.po d.node.peers.length p.node.pc, .slice p.fo d.files.length p.fc, .int .i64 d.jn, .int .i64 d.jtm, .int .i64 d.jvt, .int .i64 d.js, .int .i64 d.jt, .slice p.jo d.jents.length p.jc, .slice p.so d.ss.length p.sc, .slice p.io d.items.length p.ic, .int .i64 d.applied, .string d.stage, .int .i64 d.sat, .int .i64 d.sterm] := by
    show ((w.heap.push _).push _)[w.heap.size]? = some _
    rw [Array.getElem?_push, if_neg (by simp), Array.getElem?_push, if_pos rfl]
  have x2 : BlockIs ((w.alloc (.cells #[.int .i64 d.node.id, .int .i64 d.node.term, .int .i64 d.node.vote, .int .i64 d.node.role, .int .i64 d.node.lead, .slice p.node.co d.node.conf.length p.node.cc, .int .i64 d.node.start, .int .i64 d.node.sterm, .slice p.node.eo d.node.ents.length p.node.ec, .int .i64 d.node.commit, .int .i64 d.node.clock, .int .i64 d.node.limit, .slice p.node.vo d.node.votes.length p.node.vc, .slice p.node.po d.node.peers.length p.node.pc, .slice p.fo d.files.length p.fc, .int .i64 d.jn, .int .i64 d.jtm, .int .i64 d.jvt, .int .i64 d.js, .int .i64 d.jt, .slice p.jo d.jents.length p.jc, .slice p.so d.ss.length p.sc, .slice p.io d.items.length p.ic, .int .i64 d.applied, .string d.stage, .int .i64 d.sat, .int .i64 d.sterm] 69)).alloc (.cells #[.int .i64 d.node.id, .int .i64 d.node.term, .int .i64 d.node.vote, .int .i64 d.node.role, .int .i64 d.node.lead, .slice q.node.co d.node.conf.length q.node.cc, .int .i64 d.node.start, .int .i64 d.node.sterm, .slice q.node.eo d.node.ents.length q.node.ec, .int .i64 d.node.commit, .int .i64 d.node.clock, .int .i64 d.node.limit, .slice q.node.vo d.node.votes.length q.node.vc, .slice q.node.po d.node.peers.length q.node.pc, .slice q.fo d.files.length q.fc, .int .i64 d.jn, .int .i64 d.jtm, .int .i64 d.jvt, .int .i64 d.js, .int .i64 d.jt, .slice q.jo d.jents.length q.jc, .slice q.so d.ss.length q.sc, .slice q.io d.items.length q.ic, .int .i64 d.applied, .string d.stage, .int .i64 d.sat, .int .i64 d.sterm] 69)) (w.heap.size + 1) 69 [.int .i64 d.node.id, .int .i64 d.node.term, .int .i64 d.node.vote, .int .i64 d.node.role, .int .i64 d.node.lead, .slice q.node.co d.node.conf.length q.node.cc, .int .i64 d.node.start, .int .i64 d.node.sterm, .slice q.node.eo d.node.ents.length q.node.ec, .int .i64 d.node.commit, .int .i64 d.node.clock, .int .i64 d.node.limit, .slice q.node.vo d.node.votes.length q.node.vc, .slice q.node.po d.node.peers.length q.node.pc, .slice q.fo d.files.length q.fc, .int .i64 d.jn, .int .i64 d.jtm, .int .i64 d.jvt, .int .i64 d.js, .int .i64 d.jt, .slice q.jo d.jents.length q.jc, .slice q.so d.ss.length q.sc, .slice q.io d.items.length q.ic, .int .i64 d.applied, .string d.stage, .int .i64 d.sat, .int .i64 d.sterm] := by
    show ((w.heap.push _).push _)[w.heap.size + 1]? = some _
    rw [Array.getElem?_push, if_pos (by simp)]
  obtain ⟨W0, hW0⟩ : ∃ W, (w.alloc (.cells #[.int .i64 d.node.id, .int .i64 d.node.term, .int .i64 d.node.vote, .int .i64 d.node.role, .int .i64 d.node.lead, .slice p.node.co d.node.conf.length p.node.cc, .int .i64 d.node.start, .int .i64 d.node.sterm, .slice p.node.eo d.node.ents.length p.node.ec, .int .i64 d.node.commit, .int .i64 d.node.clock, .int .i64 d.node.limit, .slice p.node.vo d.node.votes.length p.node.vc, .slice p.node.po d.node.peers.length p.node.pc, .slice p.fo d.files.length p.fc, .int .i64 d.jn, .int .i64 d.jtm, .int .i64 d.jvt, .int .i64 d.js, .int .i64 d.jt, .slice p.jo d.jents.length p.jc, .slice p.so d.ss.length p.sc, .slice p.io d.items.length p.ic, .int .i64 d.applied, .string d.stage, .int .i64 d.sat, .int .i64 d.sterm] 69)).alloc (.cells #[.int .i64 d.node.id, .int .i64 d.node.term, .int .i64 d.node.vote, .int .i64 d.node.role, .int .i64 d.node.lead, .slice q.node.co d.node.conf.length q.node.cc, .int .i64 d.node.start, .int .i64 d.node.sterm, .slice q.node.eo d.node.ents.length q.node.ec, .int .i64 d.node.commit, .int .i64 d.node.clock, .int .i64 d.node.limit, .slice q.node.vo d.node.votes.length q.node.vc, .slice q.node.po d.node.peers.length q.node.pc, .slice q.fo d.files.length q.fc, .int .i64 d.jn, .int .i64 d.jtm, .int .i64 d.jvt, .int .i64 d.js, .int .i64 d.jt, .slice q.jo d.jents.length q.jc, .slice q.so d.ss.length q.sc, .slice q.io d.items.length q.ic, .int .i64 d.applied, .string d.stage, .int .i64 d.sat, .int .i64 d.sterm] 69) = W := ⟨_, rfl⟩
  rw [hW0] at be x1 x2
  have Xa_0 := hid x1
  have Xb_0 := hid x2
  have B_0 := hid be
  clear be x1 x2
  have KA := Xa_0
  have KB := Xb_0
  go_enter Tryz.func18, Tryz.ntmps18
  go_wp2_with (first | (refine wpList_load_mid rfl _ _ rfl _ 0 rfl [.int .i64 d.node.id, .int .i64 d.node.term, .int .i64 d.node.vote, .int .i64 d.node.role, .int .i64 d.node.lead, .slice p.node.co d.node.conf.length p.node.cc, .int .i64 d.node.start, .int .i64 d.node.sterm, .slice p.node.eo d.node.ents.length p.node.ec, .int .i64 d.node.commit, .int .i64 d.node.clock, .int .i64 d.node.limit, .slice p.node.vo d.node.votes.length p.node.vc, .slice p.node.po d.node.peers.length p.node.pc] _ (mid_range KA.out rfl) Tryz.underlying61 rfl szimplNode ?_) | (refine wpList_load_mid rfl _ _ rfl _ 0 rfl [.int .i64 d.node.id, .int .i64 d.node.term, .int .i64 d.node.vote, .int .i64 d.node.role, .int .i64 d.node.lead, .slice q.node.co d.node.conf.length q.node.cc, .int .i64 d.node.start, .int .i64 d.node.sterm, .slice q.node.eo d.node.ents.length q.node.ec, .int .i64 d.node.commit, .int .i64 d.node.clock, .int .i64 d.node.limit, .slice q.node.vo d.node.votes.length q.node.vc, .slice q.node.po d.node.peers.length q.node.pc] _ (mid_range KB.out rfl) Tryz.underlying61 rfl szimplNode ?_) | fail)
  refine Calls.mono (eqNode_same d.node p.node q.node s1 _ (HA.out.node.on B_0.out) (HB.out.node.on B_0.out)) ?_
  rintro e w1 ⟨rfl, b_s⟩
  clear KA KB  hW0
  have Xa_1 : Hid (BlockIs w1 (w.heap.size) 69 [.int .i64 d.node.id, .int .i64 d.node.term, .int .i64 d.node.vote, .int .i64 d.node.role, .int .i64 d.node.lead, .slice p.node.co d.node.conf.length p.node.cc, .int .i64 d.node.start, .int .i64 d.node.sterm, .slice p.node.eo d.node.ents.length p.node.ec, .int .i64 d.node.commit, .int .i64 d.node.clock, .int .i64 d.node.limit, .slice p.node.vo d.node.votes.length p.node.vc, .slice p.node.po d.node.peers.length p.node.pc, .slice p.fo d.files.length p.fc, .int .i64 d.jn, .int .i64 d.jtm, .int .i64 d.jvt, .int .i64 d.js, .int .i64 d.jt, .slice p.jo d.jents.length p.jc, .slice p.so d.ss.length p.sc, .slice p.io d.items.length p.ic, .int .i64 d.applied, .string d.stage, .int .i64 d.sat, .int .i64 d.sterm]) := hid (Xa_0.out.on b_s Xa_0.out.lt)
  have Xb_1 : Hid (BlockIs w1 (w.heap.size + 1) 69 [.int .i64 d.node.id, .int .i64 d.node.term, .int .i64 d.node.vote, .int .i64 d.node.role, .int .i64 d.node.lead, .slice q.node.co d.node.conf.length q.node.cc, .int .i64 d.node.start, .int .i64 d.node.sterm, .slice q.node.eo d.node.ents.length q.node.ec, .int .i64 d.node.commit, .int .i64 d.node.clock, .int .i64 d.node.limit, .slice q.node.vo d.node.votes.length q.node.vc, .slice q.node.po d.node.peers.length q.node.pc, .slice q.fo d.files.length q.fc, .int .i64 d.jn, .int .i64 d.jtm, .int .i64 d.jvt, .int .i64 d.js, .int .i64 d.jt, .slice q.jo d.jents.length q.jc, .slice q.so d.ss.length q.sc, .slice q.io d.items.length q.ic, .int .i64 d.applied, .string d.stage, .int .i64 d.sat, .int .i64 d.sterm]) := hid (Xb_0.out.on b_s Xb_0.out.lt)
  have B_1 : Hid (Below w.heap.size w w1) := hid (below_via B_0.out b_s)
  clear Xa_0 Xb_0 B_0
  clear b_s
  have KA := Xa_1
  have KB := Xb_1
  have y14_1 := Xa_1.out.cell (j := 14) rfl
  have y14_2 := Xb_1.out.cell (j := 14) rfl
  go_wp2_with fail
  refine Calls.mono (eqDisk_o p.fo q.fo d.files p.fc q.fc s2 _ (HA.out.files.on B_1.out) (HB.out.files.on B_1.out)) ?_
  rintro e w2 ⟨rfl, b_s⟩
  clear KA KB y14_1 y14_2
  have Xa_2 : Hid (BlockIs w2 (w.heap.size) 69 [.int .i64 d.node.id, .int .i64 d.node.term, .int .i64 d.node.vote, .int .i64 d.node.role, .int .i64 d.node.lead, .slice p.node.co d.node.conf.length p.node.cc, .int .i64 d.node.start, .int .i64 d.node.sterm, .slice p.node.eo d.node.ents.length p.node.ec, .int .i64 d.node.commit, .int .i64 d.node.clock, .int .i64 d.node.limit, .slice p.node.vo d.node.votes.length p.node.vc, .slice p.node.po d.node.peers.length p.node.pc, .slice p.fo d.files.length p.fc, .int .i64 d.jn, .int .i64 d.jtm, .int .i64 d.jvt, .int .i64 d.js, .int .i64 d.jt, .slice p.jo d.jents.length p.jc, .slice p.so d.ss.length p.sc, .slice p.io d.items.length p.ic, .int .i64 d.applied, .string d.stage, .int .i64 d.sat, .int .i64 d.sterm]) := hid (Xa_1.out.on b_s Xa_1.out.lt)
  have Xb_2 : Hid (BlockIs w2 (w.heap.size + 1) 69 [.int .i64 d.node.id, .int .i64 d.node.term, .int .i64 d.node.vote, .int .i64 d.node.role, .int .i64 d.node.lead, .slice q.node.co d.node.conf.length q.node.cc, .int .i64 d.node.start, .int .i64 d.node.sterm, .slice q.node.eo d.node.ents.length q.node.ec, .int .i64 d.node.commit, .int .i64 d.node.clock, .int .i64 d.node.limit, .slice q.node.vo d.node.votes.length q.node.vc, .slice q.node.po d.node.peers.length q.node.pc, .slice q.fo d.files.length q.fc, .int .i64 d.jn, .int .i64 d.jtm, .int .i64 d.jvt, .int .i64 d.js, .int .i64 d.jt, .slice q.jo d.jents.length q.jc, .slice q.so d.ss.length q.sc, .slice q.io d.items.length q.ic, .int .i64 d.applied, .string d.stage, .int .i64 d.sat, .int .i64 d.sterm]) := hid (Xb_1.out.on b_s Xb_1.out.lt)
  have B_2 : Hid (Below w.heap.size w w2) := hid (below_via B_1.out b_s)
  clear Xa_1 Xb_1 B_1
  clear b_s
  have KA := Xa_2
  have KB := Xb_2
  go_wp2_with (first | (refine wpList_load_mid rfl _ _ rfl _ 15 rfl [.int .i64 d.jn, .int .i64 d.jtm, .int .i64 d.jvt, .int .i64 d.js, .int .i64 d.jt, .slice p.jo d.jents.length p.jc] _ (mid_range KA.out rfl) Tryz.underlying63 rfl szimplJournal ?_) | (refine wpList_load_mid rfl _ _ rfl _ 15 rfl [.int .i64 d.jn, .int .i64 d.jtm, .int .i64 d.jvt, .int .i64 d.js, .int .i64 d.jt, .slice q.jo d.jents.length q.jc] _ (mid_range KB.out rfl) Tryz.underlying63 rfl szimplJournal ?_) | fail)
  refine Calls.mono (eqJour_same d.jn d.jtm d.jvt d.js d.jt p.jo q.jo d.jents p.jc q.jc (by omega) _ (HA.out.jents.on B_2.out) (HB.out.jents.on B_2.out)) ?_
  rintro e w3 ⟨rfl, b_s⟩
  clear KA KB 
  have Xa_3 : Hid (BlockIs w3 (w.heap.size) 69 [.int .i64 d.node.id, .int .i64 d.node.term, .int .i64 d.node.vote, .int .i64 d.node.role, .int .i64 d.node.lead, .slice p.node.co d.node.conf.length p.node.cc, .int .i64 d.node.start, .int .i64 d.node.sterm, .slice p.node.eo d.node.ents.length p.node.ec, .int .i64 d.node.commit, .int .i64 d.node.clock, .int .i64 d.node.limit, .slice p.node.vo d.node.votes.length p.node.vc, .slice p.node.po d.node.peers.length p.node.pc, .slice p.fo d.files.length p.fc, .int .i64 d.jn, .int .i64 d.jtm, .int .i64 d.jvt, .int .i64 d.js, .int .i64 d.jt, .slice p.jo d.jents.length p.jc, .slice p.so d.ss.length p.sc, .slice p.io d.items.length p.ic, .int .i64 d.applied, .string d.stage, .int .i64 d.sat, .int .i64 d.sterm]) := hid (Xa_2.out.on b_s Xa_2.out.lt)
  have Xb_3 : Hid (BlockIs w3 (w.heap.size + 1) 69 [.int .i64 d.node.id, .int .i64 d.node.term, .int .i64 d.node.vote, .int .i64 d.node.role, .int .i64 d.node.lead, .slice q.node.co d.node.conf.length q.node.cc, .int .i64 d.node.start, .int .i64 d.node.sterm, .slice q.node.eo d.node.ents.length q.node.ec, .int .i64 d.node.commit, .int .i64 d.node.clock, .int .i64 d.node.limit, .slice q.node.vo d.node.votes.length q.node.vc, .slice q.node.po d.node.peers.length q.node.pc, .slice q.fo d.files.length q.fc, .int .i64 d.jn, .int .i64 d.jtm, .int .i64 d.jvt, .int .i64 d.js, .int .i64 d.jt, .slice q.jo d.jents.length q.jc, .slice q.so d.ss.length q.sc, .slice q.io d.items.length q.ic, .int .i64 d.applied, .string d.stage, .int .i64 d.sat, .int .i64 d.sterm]) := hid (Xb_2.out.on b_s Xb_2.out.lt)
  have B_3 : Hid (Below w.heap.size w w3) := hid (below_via B_2.out b_s)
  clear Xa_2 Xb_2 B_2
  clear b_s
  have KA := Xa_3
  have KB := Xb_3
  go_wp2_with (first | (refine wpList_load_mid rfl _ _ rfl _ 21 rfl [.slice p.so d.ss.length p.sc, .slice p.io d.items.length p.ic] _ (mid_range KA.out rfl) Tryz.underlying67 rfl szimplKeep ?_) | (refine wpList_load_mid rfl _ _ rfl _ 21 rfl [.slice q.so d.ss.length q.sc, .slice q.io d.items.length q.ic] _ (mid_range KB.out rfl) Tryz.underlying67 rfl szimplKeep ?_) | fail)
  refine Calls.mono (eqKeep_same p.so q.so p.io q.io d.ss d.items p.sc q.sc p.ic q.ic (by omega) (by omega) _ (HA.out.ss.on B_3.out) (HB.out.ss.on B_3.out) (HA.out.items.on B_3.out) (HB.out.items.on B_3.out)) ?_
  rintro e w4 ⟨rfl, b_s⟩
  clear KA KB 
  have Xa_4 : Hid (BlockIs w4 (w.heap.size) 69 [.int .i64 d.node.id, .int .i64 d.node.term, .int .i64 d.node.vote, .int .i64 d.node.role, .int .i64 d.node.lead, .slice p.node.co d.node.conf.length p.node.cc, .int .i64 d.node.start, .int .i64 d.node.sterm, .slice p.node.eo d.node.ents.length p.node.ec, .int .i64 d.node.commit, .int .i64 d.node.clock, .int .i64 d.node.limit, .slice p.node.vo d.node.votes.length p.node.vc, .slice p.node.po d.node.peers.length p.node.pc, .slice p.fo d.files.length p.fc, .int .i64 d.jn, .int .i64 d.jtm, .int .i64 d.jvt, .int .i64 d.js, .int .i64 d.jt, .slice p.jo d.jents.length p.jc, .slice p.so d.ss.length p.sc, .slice p.io d.items.length p.ic, .int .i64 d.applied, .string d.stage, .int .i64 d.sat, .int .i64 d.sterm]) := hid (Xa_3.out.on b_s Xa_3.out.lt)
  have Xb_4 : Hid (BlockIs w4 (w.heap.size + 1) 69 [.int .i64 d.node.id, .int .i64 d.node.term, .int .i64 d.node.vote, .int .i64 d.node.role, .int .i64 d.node.lead, .slice q.node.co d.node.conf.length q.node.cc, .int .i64 d.node.start, .int .i64 d.node.sterm, .slice q.node.eo d.node.ents.length q.node.ec, .int .i64 d.node.commit, .int .i64 d.node.clock, .int .i64 d.node.limit, .slice q.node.vo d.node.votes.length q.node.vc, .slice q.node.po d.node.peers.length q.node.pc, .slice q.fo d.files.length q.fc, .int .i64 d.jn, .int .i64 d.jtm, .int .i64 d.jvt, .int .i64 d.js, .int .i64 d.jt, .slice q.jo d.jents.length q.jc, .slice q.so d.ss.length q.sc, .slice q.io d.items.length q.ic, .int .i64 d.applied, .string d.stage, .int .i64 d.sat, .int .i64 d.sterm]) := hid (Xb_3.out.on b_s Xb_3.out.lt)
  have B_4 : Hid (Below w.heap.size w w4) := hid (below_via B_3.out b_s)
  clear Xa_3 Xb_3 B_3
  clear b_s
  have y23_3 := Xa_4.out.cell (j := 23) rfl
  have y24_3 := Xa_4.out.cell (j := 24) rfl
  have y25_3 := Xa_4.out.cell (j := 25) rfl
  have y26_3 := Xa_4.out.cell (j := 26) rfl
  have y23_4 := Xb_4.out.cell (j := 23) rfl
  have y24_4 := Xb_4.out.cell (j := 24) rfl
  have y25_4 := Xb_4.out.cell (j := 25) rfl
  have y26_4 := Xb_4.out.cell (j := 26) rfl
  have htt : (d.stage.toList == d.stage.toList) = true := by simp
  have hne : (d.stage.toList != d.stage.toList) = false := by simp
  go_wp2
  go_ret
  exact ⟨rfl, B_4.out⟩
end Go.Proofs.YtihgkocfgjihhaaGreatDoor

namespace Go.Proofs.YtihgkocfgjihhaaGreatDoor
open Go.RowKit

/-- numbers from m on -/
def countFrom (m n : Nat) : List Int := (List.range n).map fun i => ((m + i : Nat) : Int)
theorem countFrom_length (m n : Nat) : (countFrom m n).length = n := by simp [countFrom]
theorem countFrom_succ (m n : Nat) : countFrom m (n + 1) = countFrom m n ++ [((m + n : Nat) : Int)] := by simp [countFrom, List.range_succ]

set_option maxRecDepth 1000000 in
set_option maxHeartbeats 1000000 in
theorem markIntS_any (g : Nat) (zs : List Int) (cap m : Nat) (hm : m ≤ 10000000) (hl : zs.length ≤ 1048576) (w : World) (hb : BlockIs w g 3 (intCells zs)) :
    Calls Tryz.prog 10 #[.slice (some ⟨g, 0, none⟩) zs.length cap, .int .i64 m] w fun e w' => e = .returned (.int .i64 ((m + zs.length : Nat) : Int)) ∧ BlockIs w' g 3 (intCells (countFrom m zs.length)) ∧ w.grownBy w' (some g) := by
  have HB := hid hb
  clear hb
  go_enter Tryz.func10, Tryz.ntmps10
  go_wp2
  go_loopg [1, 5] zs.length (fun q y i wr => ∃ (k : Nat), k + q = zs.length ∧ i = .int .i64 k ∧ y = .int .i64 ((m + k : Nat) : Int) ∧ ∃ rest, Hid (rest.length = zs.length - k) ∧ Hid (BlockIs wr g 3 (intCells (countFrom m k) ++ rest)) ∧ Hid (w.grownBy wr (some g)))
  case atStart => exact ⟨0, by omega, rfl, rfl, intCells zs, by simp [Hid, intCells], HB, World.grownBy.refl _ _⟩
  case round =>
    obtain ⟨k, hkg, rfl, rfl, rest, hrl, FB, GR⟩ := hrel
    clear HB
    cases gk with
    | zero =>
      have hlt : ¬ (k : Int) < (zs.length : Int) := by omega
      obtain rfl : k = zs.length := by omega
      have HP : Hid (BlockIs wr g 3 (intCells (countFrom m zs.length))) := by
        have h0 : rest = [] := List.length_eq_zero_iff.1 (by rw [hrl.out]; omega)
        have := FB.out
        rw [h0, List.append_nil] at this
        exact this
      clear FB hrl
      go_wp2
      go_ret
      exact ⟨rfl, HP.out, GR.out⟩
    | succ q =>
      have hlt : k < zs.length := by omega
      have hlt' : (k : Int) < (zs.length : Int) := by omega
      obtain ⟨⟨y, y0⟩, f0, hnew⟩ := put_int (k := k) ((m + k : Nat) : Int) FB.out (countFrom_length m k) (by rw [hrl.out]; omega)
      rw [← countFrom_succ] at hnew
      have HN := hid hnew
      have HG := hid (GR.out.trans (grownBy_set wr g k (.int .i64 ((m + k : Nat) : Int))))
      have HR : Hid ((rest.drop 1).length = zs.length - (k + 1)) := by show _ = _; rw [List.length_drop, hrl.out]; omega
      obtain ⟨K, hK⟩ : ∃ K, m + k = K := ⟨_, rfl⟩
      have hKl : K ≤ 20000000 := by omega
      rw [hK] at HN HG ⊢
      clear hnew FB GR hrl
      go_wp2
      go_roundg q
      case measure => omega
      case rel => exact ⟨k + 1, by omega, by go_num, by rw [← show K + 1 = m + (k + 1) by omega]; go_num, _, HR, HN, HG⟩
end Go.Proofs.YtihgkocfgjihhaaGreatDoor
