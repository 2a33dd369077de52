/-
  The walk of laws.markServer over a server of the call's own.
  The walks of laws.markIntS and laws.heldIntS over a list of numbers that the call's answer owns: written over, and held against what was written.
  The walks of laws.markSnap, heldSnap over a snapshot that the call's answer owns.
-/
import Derived.Test.YtihgkocfgjihhaaGreatDoorJoint27
import Derived.Test.YtihgkocfgjihhaaGreatDoorJoint18
import Derived.Test.YtihgkocfgjihhaaGreatDoorJoint24
import Derived.Test.YtihgkocfgjihhaaGreatDoorJoint1
namespace Go.Proofs.YtihgkocfgjihhaaGreatDoor
open Go.ChangeShapes Go.WideShapes Go.RowKit Go.Deep

theorem kept_wideS {w w' : World} {a b lo hi : Nat} (h : KeptBut a b w w') (h1 : lo ≤ a) (h2 : b ≤ hi) : KeptBut lo hi w w' := fun j t cs hj q => h j t cs (fun r => hj ⟨by omega, by omega⟩) q
set_option maxRecDepth 1000000 in
set_option maxHeartbeats 4000000 in
theorem markServer_w (d : ServD) (g5 g8 g12 g13 : Nat) (fa : Option Addr) (fb bf hf2 gj gs gi base lo hi : Nat) (hs : d.Small) (hin : ServIn base g5 g8 g12 g13 bf hf2 gj gs gi) (h1 : lo ≤ base) (h2 : gi < hi) (w : World) (_hh : hi ≤ w.heap.size) (ho : ServOwn w d g5 g8 g12 g13 fa bf hf2 gj gs gi) :
    Calls Tryz.prog 19 #[.agg #[.int .i64 d.node.id, .int .i64 d.node.term, .int .i64 d.node.vote, .int .i64 d.node.role, .int .i64 d.node.lead, .slice (some ⟨g5, 0, none⟩) d.node.conf.length d.node.conf.length, .int .i64 d.node.start, .int .i64 d.node.sterm, .slice (some ⟨g8, 0, none⟩) d.node.ents.length d.node.ents.length, .int .i64 d.node.commit, .int .i64 d.node.clock, .int .i64 d.node.limit, .slice (some ⟨g12, 0, none⟩) d.node.votes.length d.node.votes.length, .slice (some ⟨g13, 0, none⟩) d.node.peers.length d.node.peers.length, .slice fa d.files.length fb, .int .i64 d.jn, .int .i64 d.jtm, .int .i64 d.jvt, .int .i64 d.js, .int .i64 d.jt, .slice (some ⟨gj, 0, none⟩) d.jents.length d.jents.length, .slice (some ⟨gs, 0, none⟩) d.ss.length d.ss.length, .slice (some ⟨gi, 0, none⟩) d.items.length d.items.length, .int .i64 d.applied, .string d.stage, .int .i64 d.sat, .int .i64 d.sterm], .int .i64 1] w fun e w' => ∃ k : Nat, e = .returned (.int .i64 (k : Int)) ∧ KeptBut lo hi w w' ∧ Below lo w w' := by
  obtain ⟨s1, s2, _, _, s5, _, s7, s8, _, stot⟩ := hs
  obtain ⟨i0, i1, i2, i3, i4, i5, i6, i7, i8⟩ := hin
  have be := below_more (Below.refl w.heap.size w) (.cells #[.int .i64 d.node.id, .int .i64 d.node.term, .int .i64 d.node.vote, .int .i64 d.node.role, .int .i64 d.node.lead, .slice (some ⟨g5, 0, none⟩) d.node.conf.length d.node.conf.length, .int .i64 d.node.start, .int .i64 d.node.sterm, .slice (some ⟨g8, 0, none⟩) d.node.ents.length d.node.ents.length, .int .i64 d.node.commit, .int .i64 d.node.clock, .int .i64 d.node.limit, .slice (some ⟨g12, 0, none⟩) d.node.votes.length d.node.votes.length, .slice (some ⟨g13, 0, none⟩) d.node.peers.length d.node.peers.length, .slice fa d.files.length fb, .int .i64 d.jn, .int .i64 d.jtm, .int .i64 d.jvt, .int .i64 d.js, .int .i64 d.jt, .slice (some ⟨gj, 0, none⟩) d.jents.length d.jents.length, .slice (some ⟨gs, 0, none⟩) d.ss.length d.ss.length, .slice (some ⟨gi, 0, none⟩) d.items.length d.items.length, .int .i64 d.applied, .string d.stage, .int .i64 d.sat, .int .i64 d.sterm] 69)
  have x1 : BlockIs (w.alloc (.cells #[.int .i64 d.node.id, .int .i64 d.node.term, .int .i64 d.node.vote, .int .i64 d.node.role, .int .i64 d.node.lead, .slice (some ⟨g5, 0, none⟩) d.node.conf.length d.node.conf.length, .int .i64 d.node.start, .int .i64 d.node.sterm, .slice (some ⟨g8, 0, none⟩) d.node.ents.length d.node.ents.length, .int .i64 d.node.commit, .int .i64 d.node.clock, .int .i64 d.node.limit, .slice (some ⟨g12, 0, none⟩) d.node.votes.length d.node.votes.length, .slice (some ⟨g13, 0, none⟩) d.node.peers.length d.node.peers.length, .slice fa d.files.length fb, .int .i64 d.jn, .int .i64 d.jtm, .int .i64 d.jvt, .int .i64 d.js, .int .i64 d.jt, .slice (some ⟨gj, 0, none⟩) d.jents.length d.jents.length, .slice (some ⟨gs, 0, none⟩) d.ss.length d.ss.length, .slice (some ⟨gi, 0, none⟩) d.items.length d.items.length, .int .i64 d.applied, .string d.stage, .int .i64 d.sat, .int .i64 d.sterm] 69)) w.heap.size 69 [.int .i64 d.node.id, .int .i64 d.node.term, .int .i64 d.node.vote, .int .i64 d.node.role, .int .i64 d.node.lead, .slice (some ⟨g5, 0, none⟩) d.node.conf.length d.node.conf.length, .int .i64 d.node.start, .int .i64 d.node.sterm, .slice (some ⟨g8, 0, none⟩) d.node.ents.length d.node.ents.length, .int .i64 d.node.commit, .int .i64 d.node.clock, .int .i64 d.node.limit, .slice (some ⟨g12, 0, none⟩) d.node.votes.length d.node.votes.length, .slice (some ⟨g13, 0, none⟩) d.node.peers.length d.node.peers.length, .slice fa d.files.length fb, .int .i64 d.jn, .int .i64 d.jtm, .int .i64 d.jvt, .int .i64 d.js, .int .i64 d.jt, .slice (some ⟨gj, 0, none⟩) d.jents.length d.jents.length, .slice (some ⟨gs, 0, none⟩) d.ss.length d.ss.length, .slice (some ⟨gi, 0, none⟩) d.items.length d.items.length, .int .i64 d.applied, .string d.stage, .int .i64 d.sat, .int .i64 d.sterm] := heap_alloc_new w _
  obtain ⟨W0, hW0⟩ : ∃ W, w.alloc (.cells #[.int .i64 d.node.id, .int .i64 d.node.term, .int .i64 d.node.vote, .int .i64 d.node.role, .int .i64 d.node.lead, .slice (some ⟨g5, 0, none⟩) d.node.conf.length d.node.conf.length, .int .i64 d.node.start, .int .i64 d.node.sterm, .slice (some ⟨g8, 0, none⟩) d.node.ents.length d.node.ents.length, .int .i64 d.node.commit, .int .i64 d.node.clock, .int .i64 d.node.limit, .slice (some ⟨g12, 0, none⟩) d.node.votes.length d.node.votes.length, .slice (some ⟨g13, 0, none⟩) d.node.peers.length d.node.peers.length, .slice fa d.files.length fb, .int .i64 d.jn, .int .i64 d.jtm, .int .i64 d.jvt, .int .i64 d.js, .int .i64 d.jt, .slice (some ⟨gj, 0, none⟩) d.jents.length d.jents.length, .slice (some ⟨gs, 0, none⟩) d.ss.length d.ss.length, .slice (some ⟨gi, 0, none⟩) d.items.length d.items.length, .int .i64 d.applied, .string d.stage, .int .i64 d.sat, .int .i64 d.sterm] 69) = W := ⟨_, rfl⟩
  rw [hW0] at be x1
  obtain ⟨hn, hfl, hj, hss, hit⟩ := ho
  have li : gi < w.heap.size := hit.lt
  have lhf : hf2 ≤ w.heap.size := by omega
  have HN := hid (NodeOwn.mk (hn.conf.on be hn.conf.lt) (hn.ents.on be hn.ents.lt) (hn.votes.on be hn.votes.lt) (hn.peers.on be hn.peers.lt))
  have Of_0 := hid (hfl.on be)
  have Xj_0 := hid (hj.on be hj.lt)
  have Xs_0 := hid (hss.on be hss.lt)
  have Xi_0 := hid (hit.on be hit.lt)
  have Xa_0 := hid x1
  have KP_0 : Hid (KeptBut lo hi w W0) := hid (kept_belowS be)
  have B_0 : Hid (Below lo w W0) := hid (be.mono (by omega))
  have S_0 : Hid (w.heap.size < W0.heap.size) := hid x1.lt
  clear be x1 hn hfl hj hss hit
  obtain ⟨m1, hm1⟩ : ∃ m : Nat, 1 + d.node.conf.length + 3 * d.node.ents.length + d.node.votes.length + 4 * d.node.peers.length = m := ⟨_, rfl⟩
  have hb1 : m1 + 4 * (d.files.length + d.jents.length + d.ss.length + d.items.length) ≤ 1 + 4 * 1048576 := by omega
  have hsum : d.node.conf.length + d.node.ents.length + d.node.votes.length + d.node.peers.length ≤ 1048576 := by omega
  have CN := hid (markNode_w d.node g5 g8 g12 g13 g5 bf hsum (Nat.le_refl _) i1 i2 i3 i4 W0 (by have := S_0.out; omega) HN.out)
  rw [hm1] at CN
  have KA := Xa_0
  go_enter Tryz.func19, Tryz.ntmps19
  go_wp2_with (first | (refine wpList_load_mid rfl _ _ rfl _ 0 rfl [.int .i64 d.node.id, .int .i64 d.node.term, .int .i64 d.node.vote, .int .i64 d.node.role, .int .i64 d.node.lead, .slice (some ⟨g5, 0, none⟩) d.node.conf.length d.node.conf.length, .int .i64 d.node.start, .int .i64 d.node.sterm, .slice (some ⟨g8, 0, none⟩) d.node.ents.length d.node.ents.length, .int .i64 d.node.commit, .int .i64 d.node.clock, .int .i64 d.node.limit, .slice (some ⟨g12, 0, none⟩) d.node.votes.length d.node.votes.length, .slice (some ⟨g13, 0, none⟩) d.node.peers.length d.node.peers.length] _ (mid_range KA.out rfl) Tryz.underlying61 rfl szimplNode ?_) | fail)
  refine Calls.mono CN.out ?_
  rintro e w1 ⟨rfl, kp, bl⟩
  have Xa_1 : Hid (BlockIs w1 w.heap.size 69 [.int .i64 d.node.id, .int .i64 d.node.term, .int .i64 d.node.vote, .int .i64 d.node.role, .int .i64 d.node.lead, .slice (some ⟨g5, 0, none⟩) d.node.conf.length d.node.conf.length, .int .i64 d.node.start, .int .i64 d.node.sterm, .slice (some ⟨g8, 0, none⟩) d.node.ents.length d.node.ents.length, .int .i64 d.node.commit, .int .i64 d.node.clock, .int .i64 d.node.limit, .slice (some ⟨g12, 0, none⟩) d.node.votes.length d.node.votes.length, .slice (some ⟨g13, 0, none⟩) d.node.peers.length d.node.peers.length, .slice fa d.files.length fb, .int .i64 d.jn, .int .i64 d.jtm, .int .i64 d.jvt, .int .i64 d.js, .int .i64 d.jt, .slice (some ⟨gj, 0, none⟩) d.jents.length d.jents.length, .slice (some ⟨gs, 0, none⟩) d.ss.length d.ss.length, .slice (some ⟨gi, 0, none⟩) d.items.length d.items.length, .int .i64 d.applied, .string d.stage, .int .i64 d.sat, .int .i64 d.sterm]) := hid (Xa_0.out.kept kp (by omega))
  have Of_1 : Hid (OwnAt w1 82 (fileCells d.files) d.files.length fa bf hf2) := hid (Of_0.out.kept kp (by omega))
  have Xj_1 := hid (Xj_0.out.kept kp (by omega))
  have Xs_1 := hid (Xs_0.out.kept kp (by omega))
  have Xi_1 := hid (Xi_0.out.kept kp (by omega))
  have KP_1 : Hid (KeptBut lo hi w w1) := hid (kept_thenS KP_0.out (kept_wideS kp (by omega) (by omega)))
  have B_1 : Hid (Below lo w w1) := hid (B_0.out.trans (bl.mono (by omega)))
  have S_1 : Hid (w.heap.size < w1.heap.size) := hid (Nat.lt_of_lt_of_le S_0.out bl.size)
  clear kp bl KP_0 B_0 S_0 Xa_0 Of_0 Xj_0 Xs_0 Xi_0
  clear CN KA HN hW0
  have y14 := Xa_1.out.cell (j := 14) rfl
  go_wp2_with fail
  refine Calls.mono (markDisk_o m1 fa fb d.files bf hf2 (by omega) s2 w1 (by have := S_1.out; omega) Of_1.out) ?_
  clear y14
  rintro e w2 ⟨rfl, _, kp, bl⟩
  have Xa_2 : Hid (BlockIs w2 w.heap.size 69 [.int .i64 d.node.id, .int .i64 d.node.term, .int .i64 d.node.vote, .int .i64 d.node.role, .int .i64 d.node.lead, .slice (some ⟨g5, 0, none⟩) d.node.conf.length d.node.conf.length, .int .i64 d.node.start, .int .i64 d.node.sterm, .slice (some ⟨g8, 0, none⟩) d.node.ents.length d.node.ents.length, .int .i64 d.node.commit, .int .i64 d.node.clock, .int .i64 d.node.limit, .slice (some ⟨g12, 0, none⟩) d.node.votes.length d.node.votes.length, .slice (some ⟨g13, 0, none⟩) d.node.peers.length d.node.peers.length, .slice fa d.files.length fb, .int .i64 d.jn, .int .i64 d.jtm, .int .i64 d.jvt, .int .i64 d.js, .int .i64 d.jt, .slice (some ⟨gj, 0, none⟩) d.jents.length d.jents.length, .slice (some ⟨gs, 0, none⟩) d.ss.length d.ss.length, .slice (some ⟨gi, 0, none⟩) d.items.length d.items.length, .int .i64 d.applied, .string d.stage, .int .i64 d.sat, .int .i64 d.sterm]) := hid (Xa_1.out.kept kp (by omega))
  have Xj_2 := hid (Xj_1.out.kept kp (by omega))
  have Xs_2 := hid (Xs_1.out.kept kp (by omega))
  have Xi_2 := hid (Xi_1.out.kept kp (by omega))
  have KP_2 : Hid (KeptBut lo hi w w2) := hid (kept_thenS KP_1.out (kept_wideS kp (by omega) (by omega)))
  have B_2 : Hid (Below lo w w2) := hid (B_1.out.trans (bl.mono (by omega)))
  have S_2 : Hid (w.heap.size < w2.heap.size) := hid (Nat.lt_of_lt_of_le S_1.out bl.size)
  clear kp bl KP_1 B_1 S_1 Xa_1 Of_1 Xj_1 Xs_1 Xi_1
  obtain ⟨m2, hm2⟩ : ∃ m : Nat, m1 + 3 * d.files.length = m := ⟨_, rfl⟩
  rw [hm2]
  have KA := Xa_2
  have CJ := hid (markJournal_w d.jn d.jtm d.jvt d.js d.jt gj m2 gj (gj + 1) d.jents (by omega) s5 (Nat.le_refl _) (by omega) w2 (by have := S_2.out; omega) Xj_2.out)
  go_wp2_with (first | (refine wpList_load_mid rfl _ _ rfl _ 15 rfl [.int .i64 d.jn, .int .i64 d.jtm, .int .i64 d.jvt, .int .i64 d.js, .int .i64 d.jt, .slice (some ⟨gj, 0, none⟩) d.jents.length d.jents.length] _ (mid_range KA.out rfl) Tryz.underlying63 rfl szimplJournal ?_) | fail)
  refine Calls.mono CJ.out ?_
  rintro e w3 ⟨rfl, kp, bl⟩
  have Xa_3 : Hid (BlockIs w3 w.heap.size 69 [.int .i64 d.node.id, .int .i64 d.node.term, .int .i64 d.node.vote, .int .i64 d.node.role, .int .i64 d.node.lead, .slice (some ⟨g5, 0, none⟩) d.node.conf.length d.node.conf.length, .int .i64 d.node.start, .int .i64 d.node.sterm, .slice (some ⟨g8, 0, none⟩) d.node.ents.length d.node.ents.length, .int .i64 d.node.commit, .int .i64 d.node.clock, .int .i64 d.node.limit, .slice (some ⟨g12, 0, none⟩) d.node.votes.length d.node.votes.length, .slice (some ⟨g13, 0, none⟩) d.node.peers.length d.node.peers.length, .slice fa d.files.length fb, .int .i64 d.jn, .int .i64 d.jtm, .int .i64 d.jvt, .int .i64 d.js, .int .i64 d.jt, .slice (some ⟨gj, 0, none⟩) d.jents.length d.jents.length, .slice (some ⟨gs, 0, none⟩) d.ss.length d.ss.length, .slice (some ⟨gi, 0, none⟩) d.items.length d.items.length, .int .i64 d.applied, .string d.stage, .int .i64 d.sat, .int .i64 d.sterm]) := hid (Xa_2.out.kept kp (by omega))
  have Xs_3 := hid (Xs_2.out.kept kp (by omega))
  have Xi_3 := hid (Xi_2.out.kept kp (by omega))
  have KP_3 : Hid (KeptBut lo hi w w3) := hid (kept_thenS KP_2.out (kept_wideS kp (by omega) (by omega)))
  have B_3 : Hid (Below lo w w3) := hid (B_2.out.trans (bl.mono (by omega)))
  have S_3 : Hid (w.heap.size < w3.heap.size) := hid (Nat.lt_of_lt_of_le S_2.out bl.size)
  clear kp bl KP_2 B_2 S_2 Xa_2 Xj_2 Xs_2 Xi_2
  clear CJ KA
  obtain ⟨m3, hm3⟩ : ∃ m : Nat, m2 + 3 * d.jents.length = m := ⟨_, rfl⟩
  rw [hm3]
  have KA := Xa_3
  have CK := hid (markKeep_w gs gi m3 gs (gi + 1) d.ss d.items (by omega) (by omega) s7 s8 (Nat.le_refl _) i8 (by omega) w3 (by have := S_3.out; omega) Xs_3.out Xi_3.out)
  go_wp2_with (first | (refine wpList_load_mid rfl _ _ rfl _ 21 rfl [.slice (some ⟨gs, 0, none⟩) d.ss.length d.ss.length, .slice (some ⟨gi, 0, none⟩) d.items.length d.items.length] _ (mid_range KA.out rfl) Tryz.underlying67 rfl szimplKeep ?_) | fail)
  refine Calls.mono CK.out ?_
  rintro e w4 ⟨rfl, kp, bl⟩
  have Xa_4 : Hid (BlockIs w4 w.heap.size 69 [.int .i64 d.node.id, .int .i64 d.node.term, .int .i64 d.node.vote, .int .i64 d.node.role, .int .i64 d.node.lead, .slice (some ⟨g5, 0, none⟩) d.node.conf.length d.node.conf.length, .int .i64 d.node.start, .int .i64 d.node.sterm, .slice (some ⟨g8, 0, none⟩) d.node.ents.length d.node.ents.length, .int .i64 d.node.commit, .int .i64 d.node.clock, .int .i64 d.node.limit, .slice (some ⟨g12, 0, none⟩) d.node.votes.length d.node.votes.length, .slice (some ⟨g13, 0, none⟩) d.node.peers.length d.node.peers.length, .slice fa d.files.length fb, .int .i64 d.jn, .int .i64 d.jtm, .int .i64 d.jvt, .int .i64 d.js, .int .i64 d.jt, .slice (some ⟨gj, 0, none⟩) d.jents.length d.jents.length, .slice (some ⟨gs, 0, none⟩) d.ss.length d.ss.length, .slice (some ⟨gi, 0, none⟩) d.items.length d.items.length, .int .i64 d.applied, .string d.stage, .int .i64 d.sat, .int .i64 d.sterm]) := hid (Xa_3.out.kept kp (by omega))
  have KP_4 : Hid (KeptBut lo hi w w4) := hid (kept_thenS KP_3.out (kept_wideS kp (by omega) (by omega)))
  have B_4 : Hid (Below lo w w4) := hid (B_3.out.trans (bl.mono (by omega)))
  have S_4 : Hid (w.heap.size < w4.heap.size) := hid (Nat.lt_of_lt_of_le S_3.out bl.size)
  clear kp bl KP_3 B_3 S_3 Xa_3 Xs_3 Xi_3
  clear CK KA
  go_wp2
  go_ret
  exact ⟨_, rfl, KP_4.out, B_4.out⟩
end Go.Proofs.YtihgkocfgjihhaaGreatDoor

namespace Go.Proofs.YtihgkocfgjihhaaGreatDoor
open Go.RowKit

set_option maxRecDepth 1000000 in
theorem markIntS_nil (ao : Option Addr) (cap m : Nat) (w : World) :
    Calls Tryz.prog 10 #[.slice ao 0 cap, .int .i64 m] w fun e w' => e = .returned (.int .i64 m) ∧ w' = w := by
  go_enter Tryz.func10, Tryz.ntmps10
  go_wp2
  go_loop [1, 5] (fun y i => y = .int .i64 m ∧ i = .int .i64 0) (fun _ _ => 0)
  case atStart => exact ⟨rfl, rfl⟩
  case round =>
    obtain ⟨rfl, rfl⟩ := hrel
    go_wp2
    go_ret
    exact ⟨rfl, rfl⟩

set_option maxRecDepth 1000000 in
set_option maxHeartbeats 1000000 in
theorem markIntS_more (g : Nat) (zs : List Int) (r : List Value) (cap m : Nat) (hm : m ≤ 10000000) (hl : zs.length ≤ 1048576) (w : World) (hb : BlockIs w g 3 (intCells zs ++ r)) :
    Calls Tryz.prog 10 #[.slice (some ⟨g, 0, none⟩) zs.length cap, .int .i64 m] w fun e w' => e = .returned (.int .i64 ((m + zs.length : Nat) : Int)) ∧ (∃ r', BlockIs w' g 3 (intCells (countFrom m zs.length) ++ r')) ∧ w.grownBy w' (some g) := by
  have HB := hid hb
  clear hb
  go_enter Tryz.func10, Tryz.ntmps10
  go_wp2
  go_loopg [1, 5] zs.length (fun q y i wr => ∃ (k : Nat), k + q = zs.length ∧ i = .int .i64 k ∧ y = .int .i64 ((m + k : Nat) : Int) ∧ ∃ rest, Hid (rest.length = zs.length - k + r.length) ∧ Hid (BlockIs wr g 3 (intCells (countFrom m k) ++ rest)) ∧ Hid (w.grownBy wr (some g)))
  case atStart => exact ⟨0, by omega, rfl, rfl, intCells zs ++ r, by simp [Hid, intCells], HB, World.grownBy.refl _ _⟩
  case round =>
    obtain ⟨k, hkg, rfl, rfl, rest, hrl, FB, GR⟩ := hrel
    clear HB
    cases gk with
    | zero =>
      have hlt : ¬ (k : Int) < (zs.length : Int) := by omega
      obtain rfl : k = zs.length := by omega
      clear hrl
      go_wp2
      go_ret
      exact ⟨rfl, ⟨_, FB.out⟩, GR.out⟩
    | succ q =>
      have hlt : k < zs.length := by omega
      have hlt' : (k : Int) < (zs.length : Int) := by omega
      obtain ⟨⟨y, y0⟩, f0, hnew⟩ := put_int (k := k) ((m + k : Nat) : Int) FB.out (countFrom_length m k) (by rw [hrl.out]; omega)
      rw [← countFrom_succ] at hnew
      have HN := hid hnew
      have HG := hid (GR.out.trans (grownBy_set wr g k (.int .i64 ((m + k : Nat) : Int))))
      have HR : Hid ((rest.drop 1).length = zs.length - (k + 1) + r.length) := by show _ = _; rw [List.length_drop, hrl.out]; omega
      obtain ⟨K, hK⟩ : ∃ K, m + k = K := ⟨_, rfl⟩
      have hKl : K ≤ 20000000 := by omega
      rw [hK] at HN HG ⊢
      clear hnew FB GR hrl
      go_wp2
      go_roundg q
      case measure => omega
      case rel => exact ⟨k + 1, by omega, by go_num, by rw [← show K + 1 = m + (k + 1) by omega]; go_num, _, HR, HN, HG⟩

/-- the row that an answer owns, written over -/
theorem markIntS_row (v : Value) (zs : List Int) (base m : Nat) (hm : m ≤ 10000000) (hl : zs.length ≤ 1048576) (w : World) (hb : w.ownsRow base 3 1 v zs.length (intCells zs)) :
    Calls Tryz.prog 10 #[v, .int .i64 m] w fun e w' => e = .returned (.int .i64 ((m + zs.length : Nat) : Int)) ∧ ∃ ao cap, v = .slice ao zs.length cap ∧ IntsAt w' ao (countFrom m zs.length) ∧ (∃ g, base ≤ g ∧ w.grownBy w' (some g)) := by
  obtain ⟨hx, h2⟩ := hb
  rcases h2 with ⟨hv, hn⟩ | ⟨g, cap, cur, hv, hgb, hh, hle, hmx, hsz, ht⟩
  · have e : zs = [] := List.eq_nil_of_length_eq_zero hn
    subst e hv
    refine (markIntS_nil none 0 m w).mono ?_
    rintro e w' ⟨rfl, rfl⟩
    exact ⟨rfl, none, 0, rfl, fun h => absurd rfl h, base, Nat.le_refl _, World.grownBy.refl _ _⟩
  · subst hv
    have hc : BlockIs w g 3 (intCells zs ++ cur.toList.drop (zs.length * 1)) := by
      unfold BlockIs
      rw [hh]
      have : intCells zs ++ cur.toList.drop (zs.length * 1) = cur.toList := by rw [← ht, List.take_append_drop]
      rw [this]
    refine (markIntS_more g zs _ cap m hm hl w hc).mono ?_
    rintro e w' ⟨rfl, ⟨r', hr⟩, hg⟩
    exact ⟨rfl, some ⟨g, 0, none⟩, cap, rfl, intsAt_of hr, g, hgb, hg⟩

set_option maxRecDepth 1000000 in
set_option maxHeartbeats 1000000 in
theorem heldIntS_any (ao : Option Addr) (n cap m : Nat) (hm : m ≤ 10000000) (hl : n ≤ 1048576) (w : World) (hz : IntsAt w ao (countFrom m n)) :
    Calls Tryz.prog 53 #[.slice ao n cap, .int .i64 m] w fun e w' => e = .returned (.int .i64 ((m + n : Nat) : Int)) ∧ w' = w := by
  have HZ := hid hz
  clear hz
  go_enter Tryz.func53, Tryz.ntmps53
  go_wp2
  go_loop [1, 5] (fun y i => ∃ (k : Nat), k ≤ n ∧ i = .int .i64 k ∧ y = .int .i64 ((m + k : Nat) : Int)) (fun _ i => n - (intOf i).toNat)
  case atStart => exact ⟨0, Nat.zero_le _, rfl, rfl⟩
  case round =>
    obtain ⟨k, hk, rfl, rfl⟩ := hrel
    by_cases hlt : k < n
    · have hlen := countFrom_length m n
      have hne : countFrom m n ≠ [] := by intro e; rw [e] at hlen; simp at hlen; omega
      obtain ⟨b, off, rfl, hc⟩ := HZ.out hne
      have x0 := hc k (by omega)
      have hx : (countFrom m n)[k]'(by omega) = ((m + k : Nat) : Int) := by simp [countFrom]
      rw [hx] at x0
      obtain ⟨K, hK⟩ : ∃ K, m + k = K := ⟨_, rfl⟩
      have hKl : K ≤ 20000000 := by omega
      have HK := hid hK
      rw [hK] at x0 ⊢
      clear hc hx hlen hne
      go_wp2
      go_round
      case rel => exact ⟨k + 1, by omega, by go_num, by rw [← show K + 1 = m + (k + 1) by have := HK.out; omega]; go_num⟩
      case measure => simp [intOf]; omega
    · obtain rfl : k = n := by omega
      go_wp2
      go_ret
      exact ⟨rfl, rfl⟩

/-- numbers in memory stand when a later block alone is written -/
theorem IntsAt.far {w w' : World} {ao : Option Addr} {zs : List Int} {g H : Nat} (h : IntsAt w ao zs) (hH : ∀ b off, zs ≠ [] → ao = some ⟨b, off, none⟩ → b < H) (hg : w.grownBy w' (some g)) (hgH : H ≤ g) : IntsAt w' ao zs := by
  intro h0
  obtain ⟨b, off, e1, e2⟩ := h h0
  have hb := hH b off h0 e1
  refine ⟨b, off, e1, fun j hj => ?_⟩
  have := e2 j hj
  have hlt : b < w.heap.size := World.block_lt_of_cell? w _ this
  rw [← this]
  simp only [World.cell?]
  rw [hg.block b hlt (by simp; omega)]
theorem ints_below {w : World} {ao : Option Addr} {zs : List Int} (h : IntsAt w ao zs) : ∀ b off, zs ≠ [] → ao = some ⟨b, off, none⟩ → b < w.heap.size := by
  intro b off h0 e
  obtain ⟨b', off', e1, e2⟩ := h h0
  rw [e1] at e
  cases e
  exact World.block_lt_of_cell? w _ (e2 0 (List.length_pos_iff.2 h0))
end Go.Proofs.YtihgkocfgjihhaaGreatDoor

namespace Go.Proofs.YtihgkocfgjihhaaGreatDoor
open Go.RowKit

/-- the row that an answer owns, written over; blocks of other types stand -/
theorem markIntS_row2 (v : Value) (zs : List Int) (base m : Nat) (hm : m ≤ 10000000) (hl : zs.length ≤ 1048576) (w : World) (hbase : base ≤ w.heap.size) (hb : w.ownsRow base 3 1 v zs.length (intCells zs)) :
    Calls Tryz.prog 10 #[v, .int .i64 m] w fun e w' => e = .returned (.int .i64 ((m + zs.length : Nat) : Int)) ∧ ∃ ao cap, v = .slice ao zs.length cap ∧ IntsAt w' ao (countFrom m zs.length) ∧ (∃ g, base ≤ g ∧ (∀ b t cs, t ≠ 3 → BlockIs w b t cs → b ≠ g) ∧ w.grownBy w' (some g)) := by
  obtain ⟨hx, h2⟩ := hb
  rcases h2 with ⟨hv, hn⟩ | ⟨g, cap, cur, hv, hgb, hh, hle, hmx, hsz, ht⟩
  · have e : zs = [] := List.eq_nil_of_length_eq_zero hn
    subst e hv
    refine (markIntS_nil none 0 m w).mono ?_
    rintro e w' ⟨rfl, rfl⟩
    exact ⟨rfl, none, 0, rfl, fun h => absurd rfl h, w'.heap.size, hbase, fun b t cs _ h e => by have := h.lt; omega, World.grownBy.refl _ _⟩
  · subst hv
    have hc : BlockIs w g 3 (intCells zs ++ cur.toList.drop (zs.length * 1)) := by
      unfold BlockIs
      rw [hh]
      have : intCells zs ++ cur.toList.drop (zs.length * 1) = cur.toList := by rw [← ht, List.take_append_drop]
      rw [this]
    refine (markIntS_more g zs _ cap m hm hl w hc).mono ?_
    rintro e w' ⟨rfl, ⟨r', hr⟩, hg⟩
    refine ⟨rfl, some ⟨g, 0, none⟩, cap, rfl, intsAt_of hr, g, hgb, fun b t cs hne h e => ?_, hg⟩
    subst e
    unfold BlockIs at h
    rw [hh] at h
    simp only [Option.some.injEq, Obj.cells.injEq] at h
    exact hne h.2.1.symm

set_option maxRecDepth 1000000 in
set_option maxHeartbeats 1000000 in
theorem markSnap_row (ix tm : Int) (ao : Option Addr) (cap : Nat) (bd : ByteArray) (zs : List Int) (base m : Nat) (hm : m ≤ 10000000) (hl : zs.length ≤ 1048576) (w : World) (hbase : base ≤ w.heap.size) (hb : w.ownsRow base 3 1 (.slice ao zs.length cap) zs.length (intCells zs)) :
    Calls Tryz.prog 20 #[snapV ix tm (.slice ao zs.length cap) bd, .int .i64 m] w fun e w' => e = .returned (.int .i64 ((m + zs.length : Nat) : Int)) ∧ IntsAt w' ao (countFrom m zs.length) ∧ (∃ g, base ≤ g ∧ (∀ b t cs, t ≠ 3 → BlockIs w b t cs → b ≠ g) ∧ w.grownBy w' (some g)) := by
  have hbx := below_more (Below.refl w.heap.size w) (.cells #[.int .i64 ix, .int .i64 tm, .slice ao zs.length cap, .string bd] 53)
  have C := hid (fun w hbase hb => markIntS_row2 (.slice ao zs.length cap) zs base m hm hl w hbase hb)
  have HX := hid hbx
  have HO := hid (kept_conf hb hbx)
  have HS := hid (Nat.le_trans hbase hbx.size)
  obtain ⟨N, hN⟩ : ∃ N, m + zs.length = N := ⟨_, rfl⟩
  rw [hN] at C ⊢
  clear hbx hb hN
  go_enter Tryz.func20, Tryz.ntmps20
  go_wp2_with fail
  refine (C.out _ HS.out HO.out).mono ?_
  rintro e w1 ⟨rfl, ao', cap', hv, hi, g, hg, hne, hgr⟩
  simp only [Value.slice.injEq] at hv
  obtain ⟨rfl, _, rfl⟩ := hv
  have HI := hid hi
  have HG : Hid (∃ g, base ≤ g ∧ (∀ b t cs, t ≠ 3 → BlockIs w b t cs → b ≠ g) ∧ w.grownBy w1 (some g)) := ⟨g, hg, fun b t cs h1 h2 => hne b t cs h1 (h2.on HX.out h2.lt), (grown_of_below HX.out (some g)).trans hgr⟩
  clear hi hg hne hgr C HO HX
  go_wp2
  go_ret
  exact ⟨rfl, HI.out, HG.out⟩

set_option maxRecDepth 1000000 in
set_option maxHeartbeats 1000000 in
theorem heldSnap_any (ix tm : Int) (ao : Option Addr) (n cap m : Nat) (bd : ByteArray) (hm : m ≤ 10000000) (hl : n ≤ 1048576) (w : World) (hz : IntsAt w ao (countFrom m n)) :
    Calls Tryz.prog 21 #[snapV ix tm (.slice ao n cap) bd, .int .i64 m] w fun e w' => e = .returned (.int .i64 ((m + n : Nat) : Int)) ∧ Below w.heap.size w w' := by
  have HX := hid (below_more (Below.refl w.heap.size w) (.cells #[.int .i64 ix, .int .i64 tm, .slice ao n cap, .string bd] 53))
  have C := hid (fun w hz => heldIntS_any ao n cap m hm hl w hz)
  have HZ := hid (hz.on HX.out)
  obtain ⟨N, hN⟩ : ∃ N, m + n = N := ⟨_, rfl⟩
  rw [hN] at C ⊢
  clear hN hz
  go_enter Tryz.func21, Tryz.ntmps21
  go_wp2_with fail
  refine (C.out _ HZ.out).mono ?_
  rintro e w1 ⟨rfl, hw⟩
  rw [hw]
  clear hw w1 C HZ
  go_wp2
  go_ret
  exact ⟨rfl, HX.out⟩
end Go.Proofs.YtihgkocfgjihhaaGreatDoor
