/-
  The walk of laws.toServer.
  The walks of laws.eqPeer, eqPeerS: what is alike is found alike.
-/
import Derived.Test.YtihgkocfgjihhaaGreatDoorJoint12
import Derived.Test.YtihgkocfgjihhaaGreatDoorJoint15
import Derived.Test.YtihgkocfgjihhaaGreatDoorJoint16
import Derived.Test.YtihgkocfgjihhaaGreatDoorJoint18
import Derived.Test.YtihgkocfgjihhaaGreatDoorJoint20
import Derived.Test.YtihgkocfgjihhaaGreatDoorJoint1
import Derived.Test.YtihgkocfgjihhaaGreatDoorRows
import Derived.Lib.QuietBelow
namespace Go.Proofs.YtihgkocfgjihhaaGreatDoor
open Go.ChangeShapes Go.WideShapes Go.RowKit Go.Deep

set_option maxRecDepth 1000000 in
theorem szlawsNode : (Tryz.prog.info? 39).map (·.size) = some 14 := by kernel_rfl
set_option maxRecDepth 1000000 in
theorem szlawsJournal : (Tryz.prog.info? 44).map (·.size) = some 6 := by kernel_rfl
set_option maxRecDepth 1000000 in
theorem szlawsKeep : (Tryz.prog.info? 48).map (·.size) = some 2 := by kernel_rfl
set_option maxRecDepth 1000000 in
theorem szimplNode : (Tryz.prog.info? 61).map (·.size) = some 14 := by kernel_rfl
set_option maxRecDepth 1000000 in
theorem szimplJournal : (Tryz.prog.info? 63).map (·.size) = some 6 := by kernel_rfl
set_option maxRecDepth 1000000 in
theorem szimplKeep : (Tryz.prog.info? 67).map (·.size) = some 2 := by kernel_rfl
set_option maxRecDepth 1000000 in
theorem szlawsDisk : (Tryz.prog.info? 42).map (·.size) = some 1 := by kernel_rfl
set_option maxRecDepth 1000000 in
theorem szimplDisk : (Tryz.prog.info? 25).map (·.size) = some 1 := by kernel_rfl
structure ServOwn (W : World) (d : ServD) (g5 g8 g12 g13 : Nat) (fa : Option Addr) (bf hf gj gs gi : Nat) : Prop where
  node : NodeOwn W d.node g5 g8 g12 g13
  files : OwnAt W 82 (fileCells d.files) d.files.length fa bf hf
  jents : BlockIs W gj 160 (entCells d.jents)
  ss : BlockIs W gs 121 (sessionCells d.ss)
  items : BlockIs W gi 124 (itemCells d.items)
theorem own_setS {w : World} {t : TypeId} {cs : List Value} {n : Nat} {va : Option Addr} {lo hi b j : Nat} (h : OwnAt w t cs n va lo hi) (hb : b < lo) (v : Value) : OwnAt (w.setCell ⟨b, j, none⟩ v) t cs n va lo hi :=
  h.imp id fun ⟨g, r, x, c, d, k⟩ => ⟨g, r, x, c, d, k.far (by omega) v⟩
theorem own_rowS {w : World} {t : TypeId} {cs : List Value} {n : Nat} {va : Option Addr} {lo hi b : Nat} (h : OwnAt w t cs n va lo hi) (hb : b < lo) (A : Array Value) : OwnAt (w.setRow b A) t cs n va lo hi :=
  h.imp id fun ⟨g, r, x, c, d, k⟩ => ⟨g, r, x, c, d, whole_other k (by omega) A⟩
def ServIn (lo g5 g8 g12 g13 bf hf gj gs gi : Nat) : Prop := lo + 1 + 1 < g5 ∧ g5 < g8 ∧ g8 < g12 ∧ g12 < g13 ∧ g13 < bf ∧ bf ≤ hf ∧ hf ≤ gj ∧ gj < gs ∧ gs < gi
set_option maxRecDepth 1000000 in
set_option maxHeartbeats 8000000 in
theorem toServer_any (d : ServD) (p : ServL) (hs : d.Small) (w : World) (ha : ServAt w d p) :
    Calls Tryz.prog 15 #[.agg #[.int .i64 d.node.id, .int .i64 d.node.term, .int .i64 d.node.vote, .int .i64 d.node.role, .int .i64 d.node.lead, .slice p.node.co d.node.conf.length p.node.cc, .int .i64 d.node.start, .int .i64 d.node.sterm, .slice p.node.eo d.node.ents.length p.node.ec, .int .i64 d.node.commit, .int .i64 d.node.clock, .int .i64 d.node.limit, .slice p.node.vo d.node.votes.length p.node.vc, .slice p.node.po d.node.peers.length p.node.pc, .slice p.fo d.files.length p.fc, .int .i64 d.jn, .int .i64 d.jtm, .int .i64 d.jvt, .int .i64 d.js, .int .i64 d.jt, .slice p.jo d.jents.length p.jc, .slice p.so d.ss.length p.sc, .slice p.io d.items.length p.ic, .int .i64 d.applied, .string d.stage, .int .i64 d.sat, .int .i64 d.sterm]] w fun e w' => ∃ (g5 g8 g12 g13 : Nat) (fa : Option Addr) (fb bf hf gj gs gi : Nat), ServIn w.heap.size g5 g8 g12 g13 bf hf gj gs gi ∧ e = .returned (.agg #[.int .i64 d.node.id, .int .i64 d.node.term, .int .i64 d.node.vote, .int .i64 d.node.role, .int .i64 d.node.lead, .slice (some ⟨g5, 0, none⟩) d.node.conf.length d.node.conf.length, .int .i64 d.node.start, .int .i64 d.node.sterm, .slice (some ⟨g8, 0, none⟩) d.node.ents.length d.node.ents.length, .int .i64 d.node.commit, .int .i64 d.node.clock, .int .i64 d.node.limit, .slice (some ⟨g12, 0, none⟩) d.node.votes.length d.node.votes.length, .slice (some ⟨g13, 0, none⟩) d.node.peers.length d.node.peers.length, .slice fa d.files.length fb, .int .i64 d.jn, .int .i64 d.jtm, .int .i64 d.jvt, .int .i64 d.js, .int .i64 d.jt, .slice (some ⟨gj, 0, none⟩) d.jents.length d.jents.length, .slice (some ⟨gs, 0, none⟩) d.ss.length d.ss.length, .slice (some ⟨gi, 0, none⟩) d.items.length d.items.length, .int .i64 d.applied, .string d.stage, .int .i64 d.sat, .int .i64 d.sterm]) ∧ ServOwn w' d g5 g8 g12 g13 fa bf hf gj gs gi ∧ Below w.heap.size w w' := by
  have HA := hid ha
  clear ha
  obtain ⟨s1, s2, _, _, s5, _, s7, s8, _, _⟩ := hs
  obtain ⟨be, k1, k2, k3⟩ := four_log w (.cells #[.int .i64 d.node.id, .int .i64 d.node.term, .int .i64 d.node.vote, .int .i64 d.node.role, .int .i64 d.node.lead, .slice p.node.co d.node.conf.length p.node.cc, .int .i64 d.node.start, .int .i64 d.node.sterm, .slice p.node.eo d.node.ents.length p.node.ec, .int .i64 d.node.commit, .int .i64 d.node.clock, .int .i64 d.node.limit, .slice p.node.vo d.node.votes.length p.node.vc, .slice p.node.po d.node.peers.length p.node.pc, .slice p.fo d.files.length p.fc, .int .i64 d.jn, .int .i64 d.jtm, .int .i64 d.jvt, .int .i64 d.js, .int .i64 d.jt, .slice p.jo d.jents.length p.jc, .slice p.so d.ss.length p.sc, .slice p.io d.items.length p.ic, .int .i64 d.applied, .string d.stage, .int .i64 d.sat, .int .i64 d.sterm] 50) (.cells #[.int .i64 0, .int .i64 0, .int .i64 0, .int .i64 0, .int .i64 0, .slice none 0 0, .int .i64 0, .int .i64 0, .slice none 0 0, .int .i64 0, .int .i64 0, .int .i64 0, .slice none 0 0, .slice none 0 0, .slice none 0 0, .int .i64 0, .int .i64 0, .int .i64 0, .int .i64 0, .int .i64 0, .slice none 0 0, .slice none 0 0, .slice none 0 0, .int .i64 0, .string ⟨#[]⟩, .int .i64 0, .int .i64 0] 69) (.cells #[.int .i64 0, .int .i64 0, .int .i64 0, .int .i64 0, .int .i64 0, .slice none 0 0, .int .i64 0, .int .i64 0, .slice none 0 0, .int .i64 0, .int .i64 0, .int .i64 0, .slice none 0 0, .slice none 0 0, .slice none 0 0, .int .i64 0, .int .i64 0, .int .i64 0, .int .i64 0, .int .i64 0, .slice none 0 0, .slice none 0 0, .slice none 0 0, .int .i64 0, .string ⟨#[]⟩, .int .i64 0, .int .i64 0] 69)
  have x1 : BlockIs (((w.alloc (.cells #[.int .i64 d.node.id, .int .i64 d.node.term, .int .i64 d.node.vote, .int .i64 d.node.role, .int .i64 d.node.lead, .slice p.node.co d.node.conf.length p.node.cc, .int .i64 d.node.start, .int .i64 d.node.sterm, .slice p.node.eo d.node.ents.length p.node.ec, .int .i64 d.node.commit, .int .i64 d.node.clock, .int .i64 d.node.limit, .slice p.node.vo d.node.votes.length p.node.vc, .slice p.node.po d.node.peers.length p.node.pc, .slice p.fo d.files.length p.fc, .int .i64 d.jn, .int .i64 d.jtm, .int .i64 d.jvt, .int .i64 d.js, .int .i64 d.jt, .slice p.jo d.jents.length p.jc, .slice p.so d.ss.length p.sc, .slice p.io d.items.length p.ic, .int .i64 d.applied, .string d.stage, .int .i64 d.sat, .int .i64 d.sterm] 50)).alloc (.cells #[.int .i64 0, .int .i64 0, .int .i64 0, .int .i64 0, .int .i64 0, .slice none 0 0, .int .i64 0, .int .i64 0, .slice none 0 0, .int .i64 0, .int .i64 0, .int .i64 0, .slice none 0 0, .slice none 0 0, .slice none 0 0, .int .i64 0, .int .i64 0, .int .i64 0, .int .i64 0, .int .i64 0, .slice none 0 0, .slice none 0 0, .slice none 0 0, .int .i64 0, .string ⟨#[]⟩, .int .i64 0, .int .i64 0] 69)).alloc (.cells #[.int .i64 0, .int .i64 0, .int .i64 0, .int .i64 0, .int .i64 0, .slice none 0 0, .int .i64 0, .int .i64 0, .slice none 0 0, .int .i64 0, .int .i64 0, .int .i64 0, .slice none 0 0, .slice none 0 0, .slice none 0 0, .int .i64 0, .int .i64 0, .int .i64 0, .int .i64 0, .int .i64 0, .slice none 0 0, .slice none 0 0, .slice none 0 0, .int .i64 0, .string ⟨#[]⟩, .int .i64 0, .int .i64 0] 69)) w.heap.size 50 [.int .i64 d.node.id, .int .i64 d.node.term, .int .i64 d.node.vote, .int .i64 d.node.role, .int .i64 d.node.lead, .slice p.node.co d.node.conf.length p.node.cc, .int .i64 d.node.start, .int .i64 d.node.sterm, .slice p.node.eo d.node.ents.length p.node.ec, .int .i64 d.node.commit, .int .i64 d.node.clock, .int .i64 d.node.limit, .slice p.node.vo d.node.votes.length p.node.vc, .slice p.node.po d.node.peers.length p.node.pc, .slice p.fo d.files.length p.fc, .int .i64 d.jn, .int .i64 d.jtm, .int .i64 d.jvt, .int .i64 d.js, .int .i64 d.jt, .slice p.jo d.jents.length p.jc, .slice p.so d.ss.length p.sc, .slice p.io d.items.length p.ic, .int .i64 d.applied, .string d.stage, .int .i64 d.sat, .int .i64 d.sterm] := k1
  have x2 : BlockIs (((w.alloc (.cells #[.int .i64 d.node.id, .int .i64 d.node.term, .int .i64 d.node.vote, .int .i64 d.node.role, .int .i64 d.node.lead, .slice p.node.co d.node.conf.length p.node.cc, .int .i64 d.node.start, .int .i64 d.node.sterm, .slice p.node.eo d.node.ents.length p.node.ec, .int .i64 d.node.commit, .int .i64 d.node.clock, .int .i64 d.node.limit, .slice p.node.vo d.node.votes.length p.node.vc, .slice p.node.po d.node.peers.length p.node.pc, .slice p.fo d.files.length p.fc, .int .i64 d.jn, .int .i64 d.jtm, .int .i64 d.jvt, .int .i64 d.js, .int .i64 d.jt, .slice p.jo d.jents.length p.jc, .slice p.so d.ss.length p.sc, .slice p.io d.items.length p.ic, .int .i64 d.applied, .string d.stage, .int .i64 d.sat, .int .i64 d.sterm] 50)).alloc (.cells #[.int .i64 0, .int .i64 0, .int .i64 0, .int .i64 0, .int .i64 0, .slice none 0 0, .int .i64 0, .int .i64 0, .slice none 0 0, .int .i64 0, .int .i64 0, .int .i64 0, .slice none 0 0, .slice none 0 0, .slice none 0 0, .int .i64 0, .int .i64 0, .int .i64 0, .int .i64 0, .int .i64 0, .slice none 0 0, .slice none 0 0, .slice none 0 0, .int .i64 0, .string ⟨#[]⟩, .int .i64 0, .int .i64 0] 69)).alloc (.cells #[.int .i64 0, .int .i64 0, .int .i64 0, .int .i64 0, .int .i64 0, .slice none 0 0, .int .i64 0, .int .i64 0, .slice none 0 0, .int .i64 0, .int .i64 0, .int .i64 0, .slice none 0 0, .slice none 0 0, .slice none 0 0, .int .i64 0, .int .i64 0, .int .i64 0, .int .i64 0, .int .i64 0, .slice none 0 0, .slice none 0 0, .slice none 0 0, .int .i64 0, .string ⟨#[]⟩, .int .i64 0, .int .i64 0] 69)) (w.heap.size + 1) 69 [.int .i64 0, .int .i64 0, .int .i64 0, .int .i64 0, .int .i64 0, .slice none 0 0, .int .i64 0, .int .i64 0, .slice none 0 0, .int .i64 0, .int .i64 0, .int .i64 0, .slice none 0 0, .slice none 0 0, .slice none 0 0, .int .i64 0, .int .i64 0, .int .i64 0, .int .i64 0, .int .i64 0, .slice none 0 0, .slice none 0 0, .slice none 0 0, .int .i64 0, .string ⟨#[]⟩, .int .i64 0, .int .i64 0] := k2
  have x3 : BlockIs (((w.alloc (.cells #[.int .i64 d.node.id, .int .i64 d.node.term, .int .i64 d.node.vote, .int .i64 d.node.role, .int .i64 d.node.lead, .slice p.node.co d.node.conf.length p.node.cc, .int .i64 d.node.start, .int .i64 d.node.sterm, .slice p.node.eo d.node.ents.length p.node.ec, .int .i64 d.node.commit, .int .i64 d.node.clock, .int .i64 d.node.limit, .slice p.node.vo d.node.votes.length p.node.vc, .slice p.node.po d.node.peers.length p.node.pc, .slice p.fo d.files.length p.fc, .int .i64 d.jn, .int .i64 d.jtm, .int .i64 d.jvt, .int .i64 d.js, .int .i64 d.jt, .slice p.jo d.jents.length p.jc, .slice p.so d.ss.length p.sc, .slice p.io d.items.length p.ic, .int .i64 d.applied, .string d.stage, .int .i64 d.sat, .int .i64 d.sterm] 50)).alloc (.cells #[.int .i64 0, .int .i64 0, .int .i64 0, .int .i64 0, .int .i64 0, .slice none 0 0, .int .i64 0, .int .i64 0, .slice none 0 0, .int .i64 0, .int .i64 0, .int .i64 0, .slice none 0 0, .slice none 0 0, .slice none 0 0, .int .i64 0, .int .i64 0, .int .i64 0, .int .i64 0, .int .i64 0, .slice none 0 0, .slice none 0 0, .slice none 0 0, .int .i64 0, .string ⟨#[]⟩, .int .i64 0, .int .i64 0] 69)).alloc (.cells #[.int .i64 0, .int .i64 0, .int .i64 0, .int .i64 0, .int .i64 0, .slice none 0 0, .int .i64 0, .int .i64 0, .slice none 0 0, .int .i64 0, .int .i64 0, .int .i64 0, .slice none 0 0, .slice none 0 0, .slice none 0 0, .int .i64 0, .int .i64 0, .int .i64 0, .int .i64 0, .int .i64 0, .slice none 0 0, .slice none 0 0, .slice none 0 0, .int .i64 0, .string ⟨#[]⟩, .int .i64 0, .int .i64 0] 69)) (w.heap.size + 1 + 1) 69 [.int .i64 0, .int .i64 0, .int .i64 0, .int .i64 0, .int .i64 0, .slice none 0 0, .int .i64 0, .int .i64 0, .slice none 0 0, .int .i64 0, .int .i64 0, .int .i64 0, .slice none 0 0, .slice none 0 0, .slice none 0 0, .int .i64 0, .int .i64 0, .int .i64 0, .int .i64 0, .int .i64 0, .slice none 0 0, .slice none 0 0, .slice none 0 0, .int .i64 0, .string ⟨#[]⟩, .int .i64 0, .int .i64 0] := k3
  clear k1 k2 k3
  obtain ⟨W0, hW0⟩ : ∃ W, ((w.alloc (.cells #[.int .i64 d.node.id, .int .i64 d.node.term, .int .i64 d.node.vote, .int .i64 d.node.role, .int .i64 d.node.lead, .slice p.node.co d.node.conf.length p.node.cc, .int .i64 d.node.start, .int .i64 d.node.sterm, .slice p.node.eo d.node.ents.length p.node.ec, .int .i64 d.node.commit, .int .i64 d.node.clock, .int .i64 d.node.limit, .slice p.node.vo d.node.votes.length p.node.vc, .slice p.node.po d.node.peers.length p.node.pc, .slice p.fo d.files.length p.fc, .int .i64 d.jn, .int .i64 d.jtm, .int .i64 d.jvt, .int .i64 d.js, .int .i64 d.jt, .slice p.jo d.jents.length p.jc, .slice p.so d.ss.length p.sc, .slice p.io d.items.length p.ic, .int .i64 d.applied, .string d.stage, .int .i64 d.sat, .int .i64 d.sterm] 50)).alloc (.cells #[.int .i64 0, .int .i64 0, .int .i64 0, .int .i64 0, .int .i64 0, .slice none 0 0, .int .i64 0, .int .i64 0, .slice none 0 0, .int .i64 0, .int .i64 0, .int .i64 0, .slice none 0 0, .slice none 0 0, .slice none 0 0, .int .i64 0, .int .i64 0, .int .i64 0, .int .i64 0, .int .i64 0, .slice none 0 0, .slice none 0 0, .slice none 0 0, .int .i64 0, .string ⟨#[]⟩, .int .i64 0, .int .i64 0] 69)).alloc (.cells #[.int .i64 0, .int .i64 0, .int .i64 0, .int .i64 0, .int .i64 0, .slice none 0 0, .int .i64 0, .int .i64 0, .slice none 0 0, .int .i64 0, .int .i64 0, .int .i64 0, .slice none 0 0, .slice none 0 0, .slice none 0 0, .int .i64 0, .int .i64 0, .int .i64 0, .int .i64 0, .int .i64 0, .slice none 0 0, .slice none 0 0, .slice none 0 0, .int .i64 0, .string ⟨#[]⟩, .int .i64 0, .int .i64 0] 69) = W := ⟨_, rfl⟩
  rw [hW0] at be x1 x2 x3
  have Xa_0 := hid x1
  have Xr_0 := hid x2
  have Xx_0 := hid x3
  have B_0 := hid be
  clear be x1 x2 x3
  have CN := hid (fun W h => toNode_any d.node p.node s1 W h)
  have KA := Xa_0
  go_enter Tryz.func15, Tryz.ntmps15
  go_wp2_with (first | (refine wpList_load_mid rfl _ _ rfl _ 0 rfl [.int .i64 d.node.id, .int .i64 d.node.term, .int .i64 d.node.vote, .int .i64 d.node.role, .int .i64 d.node.lead, .slice p.node.co d.node.conf.length p.node.cc, .int .i64 d.node.start, .int .i64 d.node.sterm, .slice p.node.eo d.node.ents.length p.node.ec, .int .i64 d.node.commit, .int .i64 d.node.clock, .int .i64 d.node.limit, .slice p.node.vo d.node.votes.length p.node.vc, .slice p.node.po d.node.peers.length p.node.pc] _ (mid_range KA.out rfl) Tryz.underlying39 rfl szlawsNode ?_) | fail)
  refine Calls.mono (CN.out _ (HA.out.node.on B_0.out)) ?_
  rintro e w1 ⟨g5, g8, g12, g13, o1, o2, o3, o4, rfl, hN, b_s⟩
  clear CN hW0 KA
  have l5 : w.heap.size + 1 + 1 < g5 := Nat.lt_of_lt_of_le Xx_0.out.lt o1
  clear o1
  have Xa_1 : Hid (BlockIs w1 (w.heap.size) 50 [.int .i64 d.node.id, .int .i64 d.node.term, .int .i64 d.node.vote, .int .i64 d.node.role, .int .i64 d.node.lead, .slice p.node.co d.node.conf.length p.node.cc, .int .i64 d.node.start, .int .i64 d.node.sterm, .slice p.node.eo d.node.ents.length p.node.ec, .int .i64 d.node.commit, .int .i64 d.node.clock, .int .i64 d.node.limit, .slice p.node.vo d.node.votes.length p.node.vc, .slice p.node.po d.node.peers.length p.node.pc, .slice p.fo d.files.length p.fc, .int .i64 d.jn, .int .i64 d.jtm, .int .i64 d.jvt, .int .i64 d.js, .int .i64 d.jt, .slice p.jo d.jents.length p.jc, .slice p.so d.ss.length p.sc, .slice p.io d.items.length p.ic, .int .i64 d.applied, .string d.stage, .int .i64 d.sat, .int .i64 d.sterm]) := hid (Xa_0.out.on b_s Xa_0.out.lt)
  have Xr_1 : Hid (BlockIs w1 (w.heap.size + 1) 69 [.int .i64 0, .int .i64 0, .int .i64 0, .int .i64 0, .int .i64 0, .slice none 0 0, .int .i64 0, .int .i64 0, .slice none 0 0, .int .i64 0, .int .i64 0, .int .i64 0, .slice none 0 0, .slice none 0 0, .slice none 0 0, .int .i64 0, .int .i64 0, .int .i64 0, .int .i64 0, .int .i64 0, .slice none 0 0, .slice none 0 0, .slice none 0 0, .int .i64 0, .string ⟨#[]⟩, .int .i64 0, .int .i64 0]) := hid (Xr_0.out.on b_s Xr_0.out.lt)
  have Xx_1 : Hid (BlockIs w1 (w.heap.size + 1 + 1) 69 [.int .i64 0, .int .i64 0, .int .i64 0, .int .i64 0, .int .i64 0, .slice none 0 0, .int .i64 0, .int .i64 0, .slice none 0 0, .int .i64 0, .int .i64 0, .int .i64 0, .slice none 0 0, .slice none 0 0, .slice none 0 0, .int .i64 0, .int .i64 0, .int .i64 0, .int .i64 0, .int .i64 0, .slice none 0 0, .slice none 0 0, .slice none 0 0, .int .i64 0, .string ⟨#[]⟩, .int .i64 0, .int .i64 0]) := hid (Xx_0.out.on b_s Xx_0.out.lt)
  have B_1 : Hid (Below w.heap.size w w1) := hid (below_via B_0.out b_s)
  clear Xa_0 Xr_0 Xx_0 B_0
  clear b_s
  have Xn5_1 := hid hN.conf
  have Xn8_1 := hid hN.ents
  have Xn12_1 := hid hN.votes
  have Xn13_1 := hid hN.peers
  clear hN
  obtain ⟨P0, hP0⟩ : ∃ V, w1.setCells (w.heap.size + 1 + 1) 0 (#[.int .i64 d.node.id, .int .i64 d.node.term, .int .i64 d.node.vote, .int .i64 d.node.role, .int .i64 d.node.lead, .slice (some ⟨g5, 0, none⟩) d.node.conf.length d.node.conf.length, .int .i64 d.node.start, .int .i64 d.node.sterm, .slice (some ⟨g8, 0, none⟩) d.node.ents.length d.node.ents.length, .int .i64 d.node.commit, .int .i64 d.node.clock, .int .i64 d.node.limit, .slice (some ⟨g12, 0, none⟩) d.node.votes.length d.node.votes.length, .slice (some ⟨g13, 0, none⟩) d.node.peers.length d.node.peers.length] : Array Value).toList = V := ⟨_, rfl⟩
  have KX0 := Xx_1
  have Xa_2 : Hid (BlockIs P0 (w.heap.size) 50 [.int .i64 d.node.id, .int .i64 d.node.term, .int .i64 d.node.vote, .int .i64 d.node.role, .int .i64 d.node.lead, .slice p.node.co d.node.conf.length p.node.cc, .int .i64 d.node.start, .int .i64 d.node.sterm, .slice p.node.eo d.node.ents.length p.node.ec, .int .i64 d.node.commit, .int .i64 d.node.clock, .int .i64 d.node.limit, .slice p.node.vo d.node.votes.length p.node.vc, .slice p.node.po d.node.peers.length p.node.pc, .slice p.fo d.files.length p.fc, .int .i64 d.jn, .int .i64 d.jtm, .int .i64 d.jvt, .int .i64 d.js, .int .i64 d.jt, .slice p.jo d.jents.length p.jc, .slice p.so d.ss.length p.sc, .slice p.io d.items.length p.ic, .int .i64 d.applied, .string d.stage, .int .i64 d.sat, .int .i64 d.sterm]) := hid ((by rw [← hP0]; exact mid_far (by omega) _ Xa_1.out))
  have Xr_2 : Hid (BlockIs P0 (w.heap.size + 1) 69 [.int .i64 0, .int .i64 0, .int .i64 0, .int .i64 0, .int .i64 0, .slice none 0 0, .int .i64 0, .int .i64 0, .slice none 0 0, .int .i64 0, .int .i64 0, .int .i64 0, .slice none 0 0, .slice none 0 0, .slice none 0 0, .int .i64 0, .int .i64 0, .int .i64 0, .int .i64 0, .int .i64 0, .slice none 0 0, .slice none 0 0, .slice none 0 0, .int .i64 0, .string ⟨#[]⟩, .int .i64 0, .int .i64 0]) := hid ((by rw [← hP0]; exact mid_far (by omega) _ Xr_1.out))
  have Xx_2 : Hid (BlockIs P0 (w.heap.size + 1 + 1) 69 [.int .i64 d.node.id, .int .i64 d.node.term, .int .i64 d.node.vote, .int .i64 d.node.role, .int .i64 d.node.lead, .slice (some ⟨g5, 0, none⟩) d.node.conf.length d.node.conf.length, .int .i64 d.node.start, .int .i64 d.node.sterm, .slice (some ⟨g8, 0, none⟩) d.node.ents.length d.node.ents.length, .int .i64 d.node.commit, .int .i64 d.node.clock, .int .i64 d.node.limit, .slice (some ⟨g12, 0, none⟩) d.node.votes.length d.node.votes.length, .slice (some ⟨g13, 0, none⟩) d.node.peers.length d.node.peers.length, .slice none 0 0, .int .i64 0, .int .i64 0, .int .i64 0, .int .i64 0, .int .i64 0, .slice none 0 0, .slice none 0 0, .slice none 0 0, .int .i64 0, .string ⟨#[]⟩, .int .i64 0, .int .i64 0]) := hid ((by rw [← hP0]; exact mid_set _ Xx_1.out))
  have Xn5_2 : Hid (BlockIs P0 (g5) 3 (intCells d.node.conf)) := hid ((by rw [← hP0]; exact mid_far (by omega) _ Xn5_1.out))
  have Xn8_2 : Hid (BlockIs P0 (g8) 160 (entCells d.node.ents)) := hid ((by rw [← hP0]; exact mid_far (by omega) _ Xn8_1.out))
  have Xn12_2 : Hid (BlockIs P0 (g12) 3 (intCells d.node.votes)) := hid ((by rw [← hP0]; exact mid_far (by omega) _ Xn12_1.out))
  have Xn13_2 : Hid (BlockIs P0 (g13) 195 (peerCells d.node.peers)) := hid ((by rw [← hP0]; exact mid_far (by omega) _ Xn13_1.out))
  have B_2 : Hid (Below w.heap.size w P0) := hid ((by rw [← hP0]; exact mid_below (by omega) _ B_1.out))
  clear Xa_1 Xr_1 Xx_1 Xn5_1 Xn8_1 Xn12_1 Xn13_1 B_1
  have y14_1 := Xa_2.out.cell (j := 14) rfl
  have l14 : g13 < P0.heap.size := Xn13_2.out.lt
  have CF := hid (fun W h => toDisk_o p.fo d.files p.fc s2 W h)
  go_wp2_with (first | (refine wpList_store_mid rfl _ _ _ rfl _ 0 #[.int .i64 d.node.id, .int .i64 d.node.term, .int .i64 d.node.vote, .int .i64 d.node.role, .int .i64 d.node.lead, .slice (some ⟨g5, 0, none⟩) d.node.conf.length d.node.conf.length, .int .i64 d.node.start, .int .i64 d.node.sterm, .slice (some ⟨g8, 0, none⟩) d.node.ents.length d.node.ents.length, .int .i64 d.node.commit, .int .i64 d.node.clock, .int .i64 d.node.limit, .slice (some ⟨g12, 0, none⟩) d.node.votes.length d.node.votes.length, .slice (some ⟨g13, 0, none⟩) d.node.peers.length d.node.peers.length] rfl rfl (mid_there KX0.out (Nat.le_of_ble_eq_true rfl)) szimplNode (by simp [Value.oneCell']) ?_; rw [hP0]) | fail)
  refine Calls.mono (CF.out _ (HA.out.files.on B_2.out)) ?_
  rintro e w2 ⟨fa, fb, rfl, hO, b_s⟩
  clear CF y14_1 KX0
  obtain ⟨bf, hbf⟩ : ∃ b, P0.heap.size = b := ⟨_, rfl⟩
  have l15 : g13 < bf := by rw [← hbf]; exact l14
  have lf2 : bf ≤ w2.heap.size := by rw [← hbf]; exact b_s.size
  rw [hbf] at hO
  clear l14 hbf
  have Xa_3 : Hid (BlockIs w2 (w.heap.size) 50 [.int .i64 d.node.id, .int .i64 d.node.term, .int .i64 d.node.vote, .int .i64 d.node.role, .int .i64 d.node.lead, .slice p.node.co d.node.conf.length p.node.cc, .int .i64 d.node.start, .int .i64 d.node.sterm, .slice p.node.eo d.node.ents.length p.node.ec, .int .i64 d.node.commit, .int .i64 d.node.clock, .int .i64 d.node.limit, .slice p.node.vo d.node.votes.length p.node.vc, .slice p.node.po d.node.peers.length p.node.pc, .slice p.fo d.files.length p.fc, .int .i64 d.jn, .int .i64 d.jtm, .int .i64 d.jvt, .int .i64 d.js, .int .i64 d.jt, .slice p.jo d.jents.length p.jc, .slice p.so d.ss.length p.sc, .slice p.io d.items.length p.ic, .int .i64 d.applied, .string d.stage, .int .i64 d.sat, .int .i64 d.sterm]) := hid (Xa_2.out.on b_s Xa_2.out.lt)
  have Xr_3 : Hid (BlockIs w2 (w.heap.size + 1) 69 [.int .i64 0, .int .i64 0, .int .i64 0, .int .i64 0, .int .i64 0, .slice none 0 0, .int .i64 0, .int .i64 0, .slice none 0 0, .int .i64 0, .int .i64 0, .int .i64 0, .slice none 0 0, .slice none 0 0, .slice none 0 0, .int .i64 0, .int .i64 0, .int .i64 0, .int .i64 0, .int .i64 0, .slice none 0 0, .slice none 0 0, .slice none 0 0, .int .i64 0, .string ⟨#[]⟩, .int .i64 0, .int .i64 0]) := hid (Xr_2.out.on b_s Xr_2.out.lt)
  have Xx_3 : Hid (BlockIs w2 (w.heap.size + 1 + 1) 69 [.int .i64 d.node.id, .int .i64 d.node.term, .int .i64 d.node.vote, .int .i64 d.node.role, .int .i64 d.node.lead, .slice (some ⟨g5, 0, none⟩) d.node.conf.length d.node.conf.length, .int .i64 d.node.start, .int .i64 d.node.sterm, .slice (some ⟨g8, 0, none⟩) d.node.ents.length d.node.ents.length, .int .i64 d.node.commit, .int .i64 d.node.clock, .int .i64 d.node.limit, .slice (some ⟨g12, 0, none⟩) d.node.votes.length d.node.votes.length, .slice (some ⟨g13, 0, none⟩) d.node.peers.length d.node.peers.length, .slice none 0 0, .int .i64 0, .int .i64 0, .int .i64 0, .int .i64 0, .int .i64 0, .slice none 0 0, .slice none 0 0, .slice none 0 0, .int .i64 0, .string ⟨#[]⟩, .int .i64 0, .int .i64 0]) := hid (Xx_2.out.on b_s Xx_2.out.lt)
  have Xn5_3 : Hid (BlockIs w2 (g5) 3 (intCells d.node.conf)) := hid (Xn5_2.out.on b_s Xn5_2.out.lt)
  have Xn8_3 : Hid (BlockIs w2 (g8) 160 (entCells d.node.ents)) := hid (Xn8_2.out.on b_s Xn8_2.out.lt)
  have Xn12_3 : Hid (BlockIs w2 (g12) 3 (intCells d.node.votes)) := hid (Xn12_2.out.on b_s Xn12_2.out.lt)
  have Xn13_3 : Hid (BlockIs w2 (g13) 195 (peerCells d.node.peers)) := hid (Xn13_2.out.on b_s Xn13_2.out.lt)
  have B_3 : Hid (Below w.heap.size w w2) := hid (below_via B_2.out b_s)
  clear Xa_2 Xr_2 Xx_2 Xn5_2 Xn8_2 Xn12_2 Xn13_2 B_2
  clear b_s
  obtain ⟨hf2, hhf2⟩ : ∃ b, w2.heap.size = b := ⟨_, rfl⟩
  rw [hhf2] at hO lf2
  have Of_3 := hid hO
  clear hO
  have o1 := Xx_3.out.cell (j := 14) rfl
  have f1 := Xx_3.out.thaw 14
  obtain ⟨P1, hP1⟩ : ∃ V, w2.setCell ⟨w.heap.size + 1 + 1, 14, none⟩ (.slice fa d.files.length fb) = V := ⟨_, rfl⟩
  have Xa_4 : Hid (BlockIs P1 (w.heap.size) 50 [.int .i64 d.node.id, .int .i64 d.node.term, .int .i64 d.node.vote, .int .i64 d.node.role, .int .i64 d.node.lead, .slice p.node.co d.node.conf.length p.node.cc, .int .i64 d.node.start, .int .i64 d.node.sterm, .slice p.node.eo d.node.ents.length p.node.ec, .int .i64 d.node.commit, .int .i64 d.node.clock, .int .i64 d.node.limit, .slice p.node.vo d.node.votes.length p.node.vc, .slice p.node.po d.node.peers.length p.node.pc, .slice p.fo d.files.length p.fc, .int .i64 d.jn, .int .i64 d.jtm, .int .i64 d.jvt, .int .i64 d.js, .int .i64 d.jt, .slice p.jo d.jents.length p.jc, .slice p.so d.ss.length p.sc, .slice p.io d.items.length p.ic, .int .i64 d.applied, .string d.stage, .int .i64 d.sat, .int .i64 d.sterm]) := hid ((by rw [← hP1]; exact Xa_3.out.far (by omega) _))
  have Xr_4 : Hid (BlockIs P1 (w.heap.size + 1) 69 [.int .i64 0, .int .i64 0, .int .i64 0, .int .i64 0, .int .i64 0, .slice none 0 0, .int .i64 0, .int .i64 0, .slice none 0 0, .int .i64 0, .int .i64 0, .int .i64 0, .slice none 0 0, .slice none 0 0, .slice none 0 0, .int .i64 0, .int .i64 0, .int .i64 0, .int .i64 0, .int .i64 0, .slice none 0 0, .slice none 0 0, .slice none 0 0, .int .i64 0, .string ⟨#[]⟩, .int .i64 0, .int .i64 0]) := hid ((by rw [← hP1]; exact Xr_3.out.far (by omega) _))
  have Xx_4 : Hid (BlockIs P1 (w.heap.size + 1 + 1) 69 [.int .i64 d.node.id, .int .i64 d.node.term, .int .i64 d.node.vote, .int .i64 d.node.role, .int .i64 d.node.lead, .slice (some ⟨g5, 0, none⟩) d.node.conf.length d.node.conf.length, .int .i64 d.node.start, .int .i64 d.node.sterm, .slice (some ⟨g8, 0, none⟩) d.node.ents.length d.node.ents.length, .int .i64 d.node.commit, .int .i64 d.node.clock, .int .i64 d.node.limit, .slice (some ⟨g12, 0, none⟩) d.node.votes.length d.node.votes.length, .slice (some ⟨g13, 0, none⟩) d.node.peers.length d.node.peers.length, .slice fa d.files.length fb, .int .i64 0, .int .i64 0, .int .i64 0, .int .i64 0, .int .i64 0, .slice none 0 0, .slice none 0 0, .slice none 0 0, .int .i64 0, .string ⟨#[]⟩, .int .i64 0, .int .i64 0]) := hid ((by rw [← hP1]; exact Xx_3.out.set 14 _))
  have Xn5_4 : Hid (BlockIs P1 (g5) 3 (intCells d.node.conf)) := hid ((by rw [← hP1]; exact Xn5_3.out.far (by omega) _))
  have Xn8_4 : Hid (BlockIs P1 (g8) 160 (entCells d.node.ents)) := hid ((by rw [← hP1]; exact Xn8_3.out.far (by omega) _))
  have Xn12_4 : Hid (BlockIs P1 (g12) 3 (intCells d.node.votes)) := hid ((by rw [← hP1]; exact Xn12_3.out.far (by omega) _))
  have Xn13_4 : Hid (BlockIs P1 (g13) 195 (peerCells d.node.peers)) := hid ((by rw [← hP1]; exact Xn13_3.out.far (by omega) _))
  have Of_4 : Hid (OwnAt P1 82 (fileCells d.files) d.files.length fa bf hf2) := hid ((by rw [← hP1]; exact own_setS Of_3.out (by omega) _))
  have B_4 : Hid (Below w.heap.size w P1) := hid ((by rw [← hP1]; exact B_3.out.setCell (by show _ ≤ w.heap.size + 1 + 1; omega) _))
  clear Xa_3 Xr_3 Xx_3 Xn5_3 Xn8_3 Xn12_3 Xn13_3 Of_3 B_3
  have lf3 : hf2 ≤ P1.heap.size := by rw [← hP1, World.size_setCell, hhf2]; exact Nat.le_refl _
  clear hhf2
  have KA := Xa_4
  have CJ := hid (fun W h => toJour_any d.jn d.jtm d.jvt d.js d.jt p.jo d.jents p.jc s5 W h)
  go_wp2_with (first | (refine wpList_load_mid rfl _ _ rfl _ 15 rfl [.int .i64 d.jn, .int .i64 d.jtm, .int .i64 d.jvt, .int .i64 d.js, .int .i64 d.jt, .slice p.jo d.jents.length p.jc] _ (mid_range KA.out rfl) Tryz.underlying44 rfl szlawsJournal ?_) | fail)
  refine Calls.mono (CJ.out _ (HA.out.jents.on B_4.out)) ?_
  rintro e w3 ⟨gj, lj, rfl, hJ, b_s⟩
  clear CJ KA o1 f1
  have lj2 : hf2 ≤ gj := Nat.le_trans lf3 lj
  clear lj lf3
  have Xa_5 : Hid (BlockIs w3 (w.heap.size) 50 [.int .i64 d.node.id, .int .i64 d.node.term, .int .i64 d.node.vote, .int .i64 d.node.role, .int .i64 d.node.lead, .slice p.node.co d.node.conf.length p.node.cc, .int .i64 d.node.start, .int .i64 d.node.sterm, .slice p.node.eo d.node.ents.length p.node.ec, .int .i64 d.node.commit, .int .i64 d.node.clock, .int .i64 d.node.limit, .slice p.node.vo d.node.votes.length p.node.vc, .slice p.node.po d.node.peers.length p.node.pc, .slice p.fo d.files.length p.fc, .int .i64 d.jn, .int .i64 d.jtm, .int .i64 d.jvt, .int .i64 d.js, .int .i64 d.jt, .slice p.jo d.jents.length p.jc, .slice p.so d.ss.length p.sc, .slice p.io d.items.length p.ic, .int .i64 d.applied, .string d.stage, .int .i64 d.sat, .int .i64 d.sterm]) := hid (Xa_4.out.on b_s Xa_4.out.lt)
  have Xr_5 : Hid (BlockIs w3 (w.heap.size + 1) 69 [.int .i64 0, .int .i64 0, .int .i64 0, .int .i64 0, .int .i64 0, .slice none 0 0, .int .i64 0, .int .i64 0, .slice none 0 0, .int .i64 0, .int .i64 0, .int .i64 0, .slice none 0 0, .slice none 0 0, .slice none 0 0, .int .i64 0, .int .i64 0, .int .i64 0, .int .i64 0, .int .i64 0, .slice none 0 0, .slice none 0 0, .slice none 0 0, .int .i64 0, .string ⟨#[]⟩, .int .i64 0, .int .i64 0]) := hid (Xr_4.out.on b_s Xr_4.out.lt)
  have Xx_5 : Hid (BlockIs w3 (w.heap.size + 1 + 1) 69 [.int .i64 d.node.id, .int .i64 d.node.term, .int .i64 d.node.vote, .int .i64 d.node.role, .int .i64 d.node.lead, .slice (some ⟨g5, 0, none⟩) d.node.conf.length d.node.conf.length, .int .i64 d.node.start, .int .i64 d.node.sterm, .slice (some ⟨g8, 0, none⟩) d.node.ents.length d.node.ents.length, .int .i64 d.node.commit, .int .i64 d.node.clock, .int .i64 d.node.limit, .slice (some ⟨g12, 0, none⟩) d.node.votes.length d.node.votes.length, .slice (some ⟨g13, 0, none⟩) d.node.peers.length d.node.peers.length, .slice fa d.files.length fb, .int .i64 0, .int .i64 0, .int .i64 0, .int .i64 0, .int .i64 0, .slice none 0 0, .slice none 0 0, .slice none 0 0, .int .i64 0, .string ⟨#[]⟩, .int .i64 0, .int .i64 0]) := hid (Xx_4.out.on b_s Xx_4.out.lt)
  have Xn5_5 : Hid (BlockIs w3 (g5) 3 (intCells d.node.conf)) := hid (Xn5_4.out.on b_s Xn5_4.out.lt)
  have Xn8_5 : Hid (BlockIs w3 (g8) 160 (entCells d.node.ents)) := hid (Xn8_4.out.on b_s Xn8_4.out.lt)
  have Xn12_5 : Hid (BlockIs w3 (g12) 3 (intCells d.node.votes)) := hid (Xn12_4.out.on b_s Xn12_4.out.lt)
  have Xn13_5 : Hid (BlockIs w3 (g13) 195 (peerCells d.node.peers)) := hid (Xn13_4.out.on b_s Xn13_4.out.lt)
  have Of_5 : Hid (OwnAt w3 82 (fileCells d.files) d.files.length fa bf hf2) := hid (Of_4.out.on b_s)
  have B_5 : Hid (Below w.heap.size w w3) := hid (below_via B_4.out b_s)
  clear Xa_4 Xr_4 Xx_4 Xn5_4 Xn8_4 Xn12_4 Xn13_4 Of_4 B_4
  clear b_s
  have Xj_5 := hid hJ
  clear hJ
  obtain ⟨P2, hP2⟩ : ∃ V, w3.setCells (w.heap.size + 1 + 1) 15 (#[.int .i64 d.jn, .int .i64 d.jtm, .int .i64 d.jvt, .int .i64 d.js, .int .i64 d.jt, .slice (some ⟨gj, 0, none⟩) d.jents.length d.jents.length] : Array Value).toList = V := ⟨_, rfl⟩
  have KX2 := Xx_5
  have Xa_6 : Hid (BlockIs P2 (w.heap.size) 50 [.int .i64 d.node.id, .int .i64 d.node.term, .int .i64 d.node.vote, .int .i64 d.node.role, .int .i64 d.node.lead, .slice p.node.co d.node.conf.length p.node.cc, .int .i64 d.node.start, .int .i64 d.node.sterm, .slice p.node.eo d.node.ents.length p.node.ec, .int .i64 d.node.commit, .int .i64 d.node.clock, .int .i64 d.node.limit, .slice p.node.vo d.node.votes.length p.node.vc, .slice p.node.po d.node.peers.length p.node.pc, .slice p.fo d.files.length p.fc, .int .i64 d.jn, .int .i64 d.jtm, .int .i64 d.jvt, .int .i64 d.js, .int .i64 d.jt, .slice p.jo d.jents.length p.jc, .slice p.so d.ss.length p.sc, .slice p.io d.items.length p.ic, .int .i64 d.applied, .string d.stage, .int .i64 d.sat, .int .i64 d.sterm]) := hid ((by rw [← hP2]; exact mid_far (by omega) _ Xa_5.out))
  have Xr_6 : Hid (BlockIs P2 (w.heap.size + 1) 69 [.int .i64 0, .int .i64 0, .int .i64 0, .int .i64 0, .int .i64 0, .slice none 0 0, .int .i64 0, .int .i64 0, .slice none 0 0, .int .i64 0, .int .i64 0, .int .i64 0, .slice none 0 0, .slice none 0 0, .slice none 0 0, .int .i64 0, .int .i64 0, .int .i64 0, .int .i64 0, .int .i64 0, .slice none 0 0, .slice none 0 0, .slice none 0 0, .int .i64 0, .string ⟨#[]⟩, .int .i64 0, .int .i64 0]) := hid ((by rw [← hP2]; exact mid_far (by omega) _ Xr_5.out))
  have Xx_6 : Hid (BlockIs P2 (w.heap.size + 1 + 1) 69 [.int .i64 d.node.id, .int .i64 d.node.term, .int .i64 d.node.vote, .int .i64 d.node.role, .int .i64 d.node.lead, .slice (some ⟨g5, 0, none⟩) d.node.conf.length d.node.conf.length, .int .i64 d.node.start, .int .i64 d.node.sterm, .slice (some ⟨g8, 0, none⟩) d.node.ents.length d.node.ents.length, .int .i64 d.node.commit, .int .i64 d.node.clock, .int .i64 d.node.limit, .slice (some ⟨g12, 0, none⟩) d.node.votes.length d.node.votes.length, .slice (some ⟨g13, 0, none⟩) d.node.peers.length d.node.peers.length, .slice fa d.files.length fb, .int .i64 d.jn, .int .i64 d.jtm, .int .i64 d.jvt, .int .i64 d.js, .int .i64 d.jt, .slice (some ⟨gj, 0, none⟩) d.jents.length d.jents.length, .slice none 0 0, .slice none 0 0, .int .i64 0, .string ⟨#[]⟩, .int .i64 0, .int .i64 0]) := hid ((by rw [← hP2]; exact mid_set _ Xx_5.out))
  have Xn5_6 : Hid (BlockIs P2 (g5) 3 (intCells d.node.conf)) := hid ((by rw [← hP2]; exact mid_far (by omega) _ Xn5_5.out))
  have Xn8_6 : Hid (BlockIs P2 (g8) 160 (entCells d.node.ents)) := hid ((by rw [← hP2]; exact mid_far (by omega) _ Xn8_5.out))
  have Xn12_6 : Hid (BlockIs P2 (g12) 3 (intCells d.node.votes)) := hid ((by rw [← hP2]; exact mid_far (by omega) _ Xn12_5.out))
  have Xn13_6 : Hid (BlockIs P2 (g13) 195 (peerCells d.node.peers)) := hid ((by rw [← hP2]; exact mid_far (by omega) _ Xn13_5.out))
  have Xj_6 : Hid (BlockIs P2 (gj) 160 (entCells d.jents)) := hid ((by rw [← hP2]; exact mid_far (by omega) _ Xj_5.out))
  have Of_6 : Hid (OwnAt P2 82 (fileCells d.files) d.files.length fa bf hf2) := hid ((by rw [← hP2]; exact mid_own _ Of_5.out (by omega)))
  have B_6 : Hid (Below w.heap.size w P2) := hid ((by rw [← hP2]; exact mid_below (by omega) _ B_5.out))
  clear Xa_5 Xr_5 Xx_5 Xn5_5 Xn8_5 Xn12_5 Xn13_5 Xj_5 Of_5 B_5
  have l16 : gj < P2.heap.size := Xj_6.out.lt
  have KA := Xa_6
  have CK := hid (fun W h1 h2 => toKeep_any p.so p.io d.ss d.items p.sc p.ic s7 s8 W h1 h2)
  go_wp2_with (first | (refine wpList_store_mid rfl _ _ _ rfl _ 15 #[.int .i64 d.jn, .int .i64 d.jtm, .int .i64 d.jvt, .int .i64 d.js, .int .i64 d.jt, .slice (some ⟨gj, 0, none⟩) d.jents.length d.jents.length] rfl rfl (mid_there KX2.out (Nat.le_of_ble_eq_true rfl)) szimplJournal (by simp [Value.oneCell']) ?_; rw [hP2]) | (refine wpList_load_mid rfl _ _ rfl _ 21 rfl [.slice p.so d.ss.length p.sc, .slice p.io d.items.length p.ic] _ (mid_range KA.out rfl) Tryz.underlying48 rfl szlawsKeep ?_) | fail)
  refine Calls.mono (CK.out _ (HA.out.ss.on B_6.out) (HA.out.items.on B_6.out)) ?_
  rintro e w4 ⟨gs, gi, l17, l18, rfl, hS, hI, b_s⟩
  clear CK KA KX2
  have l19 : gj < gs := Nat.lt_of_lt_of_le l16 l17
  clear l16 l17
  have Xa_7 : Hid (BlockIs w4 (w.heap.size) 50 [.int .i64 d.node.id, .int .i64 d.node.term, .int .i64 d.node.vote, .int .i64 d.node.role, .int .i64 d.node.lead, .slice p.node.co d.node.conf.length p.node.cc, .int .i64 d.node.start, .int .i64 d.node.sterm, .slice p.node.eo d.node.ents.length p.node.ec, .int .i64 d.node.commit, .int .i64 d.node.clock, .int .i64 d.node.limit, .slice p.node.vo d.node.votes.length p.node.vc, .slice p.node.po d.node.peers.length p.node.pc, .slice p.fo d.files.length p.fc, .int .i64 d.jn, .int .i64 d.jtm, .int .i64 d.jvt, .int .i64 d.js, .int .i64 d.jt, .slice p.jo d.jents.length p.jc, .slice p.so d.ss.length p.sc, .slice p.io d.items.length p.ic, .int .i64 d.applied, .string d.stage, .int .i64 d.sat, .int .i64 d.sterm]) := hid (Xa_6.out.on b_s Xa_6.out.lt)
  have Xr_7 : Hid (BlockIs w4 (w.heap.size + 1) 69 [.int .i64 0, .int .i64 0, .int .i64 0, .int .i64 0, .int .i64 0, .slice none 0 0, .int .i64 0, .int .i64 0, .slice none 0 0, .int .i64 0, .int .i64 0, .int .i64 0, .slice none 0 0, .slice none 0 0, .slice none 0 0, .int .i64 0, .int .i64 0, .int .i64 0, .int .i64 0, .int .i64 0, .slice none 0 0, .slice none 0 0, .slice none 0 0, .int .i64 0, .string ⟨#[]⟩, .int .i64 0, .int .i64 0]) := hid (Xr_6.out.on b_s Xr_6.out.lt)
  have Xx_7 : Hid (BlockIs w4 (w.heap.size + 1 + 1) 69 [.int .i64 d.node.id, .int .i64 d.node.term, .int .i64 d.node.vote, .int .i64 d.node.role, .int .i64 d.node.lead, .slice (some ⟨g5, 0, none⟩) d.node.conf.length d.node.conf.length, .int .i64 d.node.start, .int .i64 d.node.sterm, .slice (some ⟨g8, 0, none⟩) d.node.ents.length d.node.ents.length, .int .i64 d.node.commit, .int .i64 d.node.clock, .int .i64 d.node.limit, .slice (some ⟨g12, 0, none⟩) d.node.votes.length d.node.votes.length, .slice (some ⟨g13, 0, none⟩) d.node.peers.length d.node.peers.length, .slice fa d.files.length fb, .int .i64 d.jn, .int .i64 d.jtm, .int .i64 d.jvt, .int .i64 d.js, .int .i64 d.jt, .slice (some ⟨gj, 0, none⟩) d.jents.length d.jents.length, .slice none 0 0, .slice none 0 0, .int .i64 0, .string ⟨#[]⟩, .int .i64 0, .int .i64 0]) := hid (Xx_6.out.on b_s Xx_6.out.lt)
  have Xn5_7 : Hid (BlockIs w4 (g5) 3 (intCells d.node.conf)) := hid (Xn5_6.out.on b_s Xn5_6.out.lt)
  have Xn8_7 : Hid (BlockIs w4 (g8) 160 (entCells d.node.ents)) := hid (Xn8_6.out.on b_s Xn8_6.out.lt)
  have Xn12_7 : Hid (BlockIs w4 (g12) 3 (intCells d.node.votes)) := hid (Xn12_6.out.on b_s Xn12_6.out.lt)
  have Xn13_7 : Hid (BlockIs w4 (g13) 195 (peerCells d.node.peers)) := hid (Xn13_6.out.on b_s Xn13_6.out.lt)
  have Xj_7 : Hid (BlockIs w4 (gj) 160 (entCells d.jents)) := hid (Xj_6.out.on b_s Xj_6.out.lt)
  have Of_7 : Hid (OwnAt w4 82 (fileCells d.files) d.files.length fa bf hf2) := hid (Of_6.out.on b_s)
  have B_7 : Hid (Below w.heap.size w w4) := hid (below_via B_6.out b_s)
  clear Xa_6 Xr_6 Xx_6 Xn5_6 Xn8_6 Xn12_6 Xn13_6 Xj_6 Of_6 B_6
  clear b_s
  have Xs_7 := hid hS
  have Xi_7 := hid hI
  clear hS hI
  obtain ⟨P3, hP3⟩ : ∃ V, w4.setCells (w.heap.size + 1 + 1) 21 (#[.slice (some ⟨gs, 0, none⟩) d.ss.length d.ss.length, .slice (some ⟨gi, 0, none⟩) d.items.length d.items.length] : Array Value).toList = V := ⟨_, rfl⟩
  have KX3 := Xx_7
  have Xa_8 : Hid (BlockIs P3 (w.heap.size) 50 [.int .i64 d.node.id, .int .i64 d.node.term, .int .i64 d.node.vote, .int .i64 d.node.role, .int .i64 d.node.lead, .slice p.node.co d.node.conf.length p.node.cc, .int .i64 d.node.start, .int .i64 d.node.sterm, .slice p.node.eo d.node.ents.length p.node.ec, .int .i64 d.node.commit, .int .i64 d.node.clock, .int .i64 d.node.limit, .slice p.node.vo d.node.votes.length p.node.vc, .slice p.node.po d.node.peers.length p.node.pc, .slice p.fo d.files.length p.fc, .int .i64 d.jn, .int .i64 d.jtm, .int .i64 d.jvt, .int .i64 d.js, .int .i64 d.jt, .slice p.jo d.jents.length p.jc, .slice p.so d.ss.length p.sc, .slice p.io d.items.length p.ic, .int .i64 d.applied, .string d.stage, .int .i64 d.sat, .int .i64 d.sterm]) := hid ((by rw [← hP3]; exact mid_far (by omega) _ Xa_7.out))
  have Xr_8 : Hid (BlockIs P3 (w.heap.size + 1) 69 [.int .i64 0, .int .i64 0, .int .i64 0, .int .i64 0, .int .i64 0, .slice none 0 0, .int .i64 0, .int .i64 0, .slice none 0 0, .int .i64 0, .int .i64 0, .int .i64 0, .slice none 0 0, .slice none 0 0, .slice none 0 0, .int .i64 0, .int .i64 0, .int .i64 0, .int .i64 0, .int .i64 0, .slice none 0 0, .slice none 0 0, .slice none 0 0, .int .i64 0, .string ⟨#[]⟩, .int .i64 0, .int .i64 0]) := hid ((by rw [← hP3]; exact mid_far (by omega) _ Xr_7.out))
  have Xx_8 : Hid (BlockIs P3 (w.heap.size + 1 + 1) 69 [.int .i64 d.node.id, .int .i64 d.node.term, .int .i64 d.node.vote, .int .i64 d.node.role, .int .i64 d.node.lead, .slice (some ⟨g5, 0, none⟩) d.node.conf.length d.node.conf.length, .int .i64 d.node.start, .int .i64 d.node.sterm, .slice (some ⟨g8, 0, none⟩) d.node.ents.length d.node.ents.length, .int .i64 d.node.commit, .int .i64 d.node.clock, .int .i64 d.node.limit, .slice (some ⟨g12, 0, none⟩) d.node.votes.length d.node.votes.length, .slice (some ⟨g13, 0, none⟩) d.node.peers.length d.node.peers.length, .slice fa d.files.length fb, .int .i64 d.jn, .int .i64 d.jtm, .int .i64 d.jvt, .int .i64 d.js, .int .i64 d.jt, .slice (some ⟨gj, 0, none⟩) d.jents.length d.jents.length, .slice (some ⟨gs, 0, none⟩) d.ss.length d.ss.length, .slice (some ⟨gi, 0, none⟩) d.items.length d.items.length, .int .i64 0, .string ⟨#[]⟩, .int .i64 0, .int .i64 0]) := hid ((by rw [← hP3]; exact mid_set _ Xx_7.out))
  have Xn5_8 : Hid (BlockIs P3 (g5) 3 (intCells d.node.conf)) := hid ((by rw [← hP3]; exact mid_far (by omega) _ Xn5_7.out))
  have Xn8_8 : Hid (BlockIs P3 (g8) 160 (entCells d.node.ents)) := hid ((by rw [← hP3]; exact mid_far (by omega) _ Xn8_7.out))
  have Xn12_8 : Hid (BlockIs P3 (g12) 3 (intCells d.node.votes)) := hid ((by rw [← hP3]; exact mid_far (by omega) _ Xn12_7.out))
  have Xn13_8 : Hid (BlockIs P3 (g13) 195 (peerCells d.node.peers)) := hid ((by rw [← hP3]; exact mid_far (by omega) _ Xn13_7.out))
  have Xj_8 : Hid (BlockIs P3 (gj) 160 (entCells d.jents)) := hid ((by rw [← hP3]; exact mid_far (by omega) _ Xj_7.out))
  have Xs_8 : Hid (BlockIs P3 (gs) 121 (sessionCells d.ss)) := hid ((by rw [← hP3]; exact mid_far (by omega) _ Xs_7.out))
  have Xi_8 : Hid (BlockIs P3 (gi) 124 (itemCells d.items)) := hid ((by rw [← hP3]; exact mid_far (by omega) _ Xi_7.out))
  have Of_8 : Hid (OwnAt P3 82 (fileCells d.files) d.files.length fa bf hf2) := hid ((by rw [← hP3]; exact mid_own _ Of_7.out (by omega)))
  have B_8 : Hid (Below w.heap.size w P3) := hid ((by rw [← hP3]; exact mid_below (by omega) _ B_7.out))
  clear Xa_7 Xr_7 Xx_7 Xn5_7 Xn8_7 Xn12_7 Xn13_7 Xj_7 Xs_7 Xi_7 Of_7 B_7
  have y23_2 := Xa_8.out.cell (j := 23) rfl
  have o4 := Xx_8.out.cell (j := 23) rfl
  have f4 := Xx_8.out.thaw 23
  obtain ⟨P4, hP4⟩ : ∃ V, P3.setCell ⟨w.heap.size + 1 + 1, 23, none⟩ (.int .i64 d.applied) = V := ⟨_, rfl⟩
  have Xa_9 : Hid (BlockIs P4 (w.heap.size) 50 [.int .i64 d.node.id, .int .i64 d.node.term, .int .i64 d.node.vote, .int .i64 d.node.role, .int .i64 d.node.lead, .slice p.node.co d.node.conf.length p.node.cc, .int .i64 d.node.start, .int .i64 d.node.sterm, .slice p.node.eo d.node.ents.length p.node.ec, .int .i64 d.node.commit, .int .i64 d.node.clock, .int .i64 d.node.limit, .slice p.node.vo d.node.votes.length p.node.vc, .slice p.node.po d.node.peers.length p.node.pc, .slice p.fo d.files.length p.fc, .int .i64 d.jn, .int .i64 d.jtm, .int .i64 d.jvt, .int .i64 d.js, .int .i64 d.jt, .slice p.jo d.jents.length p.jc, .slice p.so d.ss.length p.sc, .slice p.io d.items.length p.ic, .int .i64 d.applied, .string d.stage, .int .i64 d.sat, .int .i64 d.sterm]) := hid ((by rw [← hP4]; exact Xa_8.out.far (by omega) _))
  have Xr_9 : Hid (BlockIs P4 (w.heap.size + 1) 69 [.int .i64 0, .int .i64 0, .int .i64 0, .int .i64 0, .int .i64 0, .slice none 0 0, .int .i64 0, .int .i64 0, .slice none 0 0, .int .i64 0, .int .i64 0, .int .i64 0, .slice none 0 0, .slice none 0 0, .slice none 0 0, .int .i64 0, .int .i64 0, .int .i64 0, .int .i64 0, .int .i64 0, .slice none 0 0, .slice none 0 0, .slice none 0 0, .int .i64 0, .string ⟨#[]⟩, .int .i64 0, .int .i64 0]) := hid ((by rw [← hP4]; exact Xr_8.out.far (by omega) _))
  have Xx_9 : Hid (BlockIs P4 (w.heap.size + 1 + 1) 69 [.int .i64 d.node.id, .int .i64 d.node.term, .int .i64 d.node.vote, .int .i64 d.node.role, .int .i64 d.node.lead, .slice (some ⟨g5, 0, none⟩) d.node.conf.length d.node.conf.length, .int .i64 d.node.start, .int .i64 d.node.sterm, .slice (some ⟨g8, 0, none⟩) d.node.ents.length d.node.ents.length, .int .i64 d.node.commit, .int .i64 d.node.clock, .int .i64 d.node.limit, .slice (some ⟨g12, 0, none⟩) d.node.votes.length d.node.votes.length, .slice (some ⟨g13, 0, none⟩) d.node.peers.length d.node.peers.length, .slice fa d.files.length fb, .int .i64 d.jn, .int .i64 d.jtm, .int .i64 d.jvt, .int .i64 d.js, .int .i64 d.jt, .slice (some ⟨gj, 0, none⟩) d.jents.length d.jents.length, .slice (some ⟨gs, 0, none⟩) d.ss.length d.ss.length, .slice (some ⟨gi, 0, none⟩) d.items.length d.items.length, .int .i64 d.applied, .string ⟨#[]⟩, .int .i64 0, .int .i64 0]) := hid ((by rw [← hP4]; exact Xx_8.out.set 23 _))
  have Xn5_9 : Hid (BlockIs P4 (g5) 3 (intCells d.node.conf)) := hid ((by rw [← hP4]; exact Xn5_8.out.far (by omega) _))
  have Xn8_9 : Hid (BlockIs P4 (g8) 160 (entCells d.node.ents)) := hid ((by rw [← hP4]; exact Xn8_8.out.far (by omega) _))
  have Xn12_9 : Hid (BlockIs P4 (g12) 3 (intCells d.node.votes)) := hid ((by rw [← hP4]; exact Xn12_8.out.far (by omega) _))
  have Xn13_9 : Hid (BlockIs P4 (g13) 195 (peerCells d.node.peers)) := hid ((by rw [← hP4]; exact Xn13_8.out.far (by omega) _))
  have Xj_9 : Hid (BlockIs P4 (gj) 160 (entCells d.jents)) := hid ((by rw [← hP4]; exact Xj_8.out.far (by omega) _))
  have Xs_9 : Hid (BlockIs P4 (gs) 121 (sessionCells d.ss)) := hid ((by rw [← hP4]; exact Xs_8.out.far (by omega) _))
  have Xi_9 : Hid (BlockIs P4 (gi) 124 (itemCells d.items)) := hid ((by rw [← hP4]; exact Xi_8.out.far (by omega) _))
  have Of_9 : Hid (OwnAt P4 82 (fileCells d.files) d.files.length fa bf hf2) := hid ((by rw [← hP4]; exact own_setS Of_8.out (by omega) _))
  have B_9 : Hid (Below w.heap.size w P4) := hid ((by rw [← hP4]; exact B_8.out.setCell (by show _ ≤ w.heap.size + 1 + 1; omega) _))
  clear Xa_8 Xr_8 Xx_8 Xn5_8 Xn8_8 Xn12_8 Xn13_8 Xj_8 Xs_8 Xi_8 Of_8 B_8
  have y24_3 := Xa_9.out.cell (j := 24) rfl
  have o5 := Xx_9.out.cell (j := 24) rfl
  have f5 := Xx_9.out.thaw 24
  obtain ⟨P5, hP5⟩ : ∃ V, P4.setCell ⟨w.heap.size + 1 + 1, 24, none⟩ (.string d.stage) = V := ⟨_, rfl⟩
  have Xa_10 : Hid (BlockIs P5 (w.heap.size) 50 [.int .i64 d.node.id, .int .i64 d.node.term, .int .i64 d.node.vote, .int .i64 d.node.role, .int .i64 d.node.lead, .slice p.node.co d.node.conf.length p.node.cc, .int .i64 d.node.start, .int .i64 d.node.sterm, .slice p.node.eo d.node.ents.length p.node.ec, .int .i64 d.node.commit, .int .i64 d.node.clock, .int .i64 d.node.limit, .slice p.node.vo d.node.votes.length p.node.vc, .slice p.node.po d.node.peers.length p.node.pc, .slice p.fo d.files.length p.fc, .int .i64 d.jn, .int .i64 d.jtm, .int .i64 d.jvt, .int .i64 d.js, .int .i64 d.jt, .slice p.jo d.jents.length p.jc, .slice p.so d.ss.length p.sc, .slice p.io d.items.length p.ic, .int .i64 d.applied, .string d.stage, .int .i64 d.sat, .int .i64 d.sterm]) := hid ((by rw [← hP5]; exact Xa_9.out.far (by omega) _))
  have Xr_10 : Hid (BlockIs P5 (w.heap.size + 1) 69 [.int .i64 0, .int .i64 0, .int .i64 0, .int .i64 0, .int .i64 0, .slice none 0 0, .int .i64 0, .int .i64 0, .slice none 0 0, .int .i64 0, .int .i64 0, .int .i64 0, .slice none 0 0, .slice none 0 0, .slice none 0 0, .int .i64 0, .int .i64 0, .int .i64 0, .int .i64 0, .int .i64 0, .slice none 0 0, .slice none 0 0, .slice none 0 0, .int .i64 0, .string ⟨#[]⟩, .int .i64 0, .int .i64 0]) := hid ((by rw [← hP5]; exact Xr_9.out.far (by omega) _))
  have Xx_10 : Hid (BlockIs P5 (w.heap.size + 1 + 1) 69 [.int .i64 d.node.id, .int .i64 d.node.term, .int .i64 d.node.vote, .int .i64 d.node.role, .int .i64 d.node.lead, .slice (some ⟨g5, 0, none⟩) d.node.conf.length d.node.conf.length, .int .i64 d.node.start, .int .i64 d.node.sterm, .slice (some ⟨g8, 0, none⟩) d.node.ents.length d.node.ents.length, .int .i64 d.node.commit, .int .i64 d.node.clock, .int .i64 d.node.limit, .slice (some ⟨g12, 0, none⟩) d.node.votes.length d.node.votes.length, .slice (some ⟨g13, 0, none⟩) d.node.peers.length d.node.peers.length, .slice fa d.files.length fb, .int .i64 d.jn, .int .i64 d.jtm, .int .i64 d.jvt, .int .i64 d.js, .int .i64 d.jt, .slice (some ⟨gj, 0, none⟩) d.jents.length d.jents.length, .slice (some ⟨gs, 0, none⟩) d.ss.length d.ss.length, .slice (some ⟨gi, 0, none⟩) d.items.length d.items.length, .int .i64 d.applied, .string d.stage, .int .i64 0, .int .i64 0]) := hid ((by rw [← hP5]; exact Xx_9.out.set 24 _))
  have Xn5_10 : Hid (BlockIs P5 (g5) 3 (intCells d.node.conf)) := hid ((by rw [← hP5]; exact Xn5_9.out.far (by omega) _))
  have Xn8_10 : Hid (BlockIs P5 (g8) 160 (entCells d.node.ents)) := hid ((by rw [← hP5]; exact Xn8_9.out.far (by omega) _))
  have Xn12_10 : Hid (BlockIs P5 (g12) 3 (intCells d.node.votes)) := hid ((by rw [← hP5]; exact Xn12_9.out.far (by omega) _))
  have Xn13_10 : Hid (BlockIs P5 (g13) 195 (peerCells d.node.peers)) := hid ((by rw [← hP5]; exact Xn13_9.out.far (by omega) _))
  have Xj_10 : Hid (BlockIs P5 (gj) 160 (entCells d.jents)) := hid ((by rw [← hP5]; exact Xj_9.out.far (by omega) _))
  have Xs_10 : Hid (BlockIs P5 (gs) 121 (sessionCells d.ss)) := hid ((by rw [← hP5]; exact Xs_9.out.far (by omega) _))
  have Xi_10 : Hid (BlockIs P5 (gi) 124 (itemCells d.items)) := hid ((by rw [← hP5]; exact Xi_9.out.far (by omega) _))
  have Of_10 : Hid (OwnAt P5 82 (fileCells d.files) d.files.length fa bf hf2) := hid ((by rw [← hP5]; exact own_setS Of_9.out (by omega) _))
  have B_10 : Hid (Below w.heap.size w P5) := hid ((by rw [← hP5]; exact B_9.out.setCell (by show _ ≤ w.heap.size + 1 + 1; omega) _))
  clear Xa_9 Xr_9 Xx_9 Xn5_9 Xn8_9 Xn12_9 Xn13_9 Xj_9 Xs_9 Xi_9 Of_9 B_9
  have y25_4 := Xa_10.out.cell (j := 25) rfl
  have o6 := Xx_10.out.cell (j := 25) rfl
  have f6 := Xx_10.out.thaw 25
  obtain ⟨P6, hP6⟩ : ∃ V, P5.setCell ⟨w.heap.size + 1 + 1, 25, none⟩ (.int .i64 d.sat) = V := ⟨_, rfl⟩
  have Xa_11 : Hid (BlockIs P6 (w.heap.size) 50 [.int .i64 d.node.id, .int .i64 d.node.term, .int .i64 d.node.vote, .int .i64 d.node.role, .int .i64 d.node.lead, .slice p.node.co d.node.conf.length p.node.cc, .int .i64 d.node.start, .int .i64 d.node.sterm, .slice p.node.eo d.node.ents.length p.node.ec, .int .i64 d.node.commit, .int .i64 d.node.clock, .int .i64 d.node.limit, .slice p.node.vo d.node.votes.length p.node.vc, .slice p.node.po d.node.peers.length p.node.pc, .slice p.fo d.files.length p.fc, .int .i64 d.jn, .int .i64 d.jtm, .int .i64 d.jvt, .int .i64 d.js, .int .i64 d.jt, .slice p.jo d.jents.length p.jc, .slice p.so d.ss.length p.sc, .slice p.io d.items.length p.ic, .int .i64 d.applied, .string d.stage, .int .i64 d.sat, .int .i64 d.sterm]) := hid ((by rw [← hP6]; exact Xa_10.out.far (by omega) _))
  have Xr_11 : Hid (BlockIs P6 (w.heap.size + 1) 69 [.int .i64 0, .int .i64 0, .int .i64 0, .int .i64 0, .int .i64 0, .slice none 0 0, .int .i64 0, .int .i64 0, .slice none 0 0, .int .i64 0, .int .i64 0, .int .i64 0, .slice none 0 0, .slice none 0 0, .slice none 0 0, .int .i64 0, .int .i64 0, .int .i64 0, .int .i64 0, .int .i64 0, .slice none 0 0, .slice none 0 0, .slice none 0 0, .int .i64 0, .string ⟨#[]⟩, .int .i64 0, .int .i64 0]) := hid ((by rw [← hP6]; exact Xr_10.out.far (by omega) _))
  have Xx_11 : Hid (BlockIs P6 (w.heap.size + 1 + 1) 69 [.int .i64 d.node.id, .int .i64 d.node.term, .int .i64 d.node.vote, .int .i64 d.node.role, .int .i64 d.node.lead, .slice (some ⟨g5, 0, none⟩) d.node.conf.length d.node.conf.length, .int .i64 d.node.start, .int .i64 d.node.sterm, .slice (some ⟨g8, 0, none⟩) d.node.ents.length d.node.ents.length, .int .i64 d.node.commit, .int .i64 d.node.clock, .int .i64 d.node.limit, .slice (some ⟨g12, 0, none⟩) d.node.votes.length d.node.votes.length, .slice (some ⟨g13, 0, none⟩) d.node.peers.length d.node.peers.length, .slice fa d.files.length fb, .int .i64 d.jn, .int .i64 d.jtm, .int .i64 d.jvt, .int .i64 d.js, .int .i64 d.jt, .slice (some ⟨gj, 0, none⟩) d.jents.length d.jents.length, .slice (some ⟨gs, 0, none⟩) d.ss.length d.ss.length, .slice (some ⟨gi, 0, none⟩) d.items.length d.items.length, .int .i64 d.applied, .string d.stage, .int .i64 d.sat, .int .i64 0]) := hid ((by rw [← hP6]; exact Xx_10.out.set 25 _))
  have Xn5_11 : Hid (BlockIs P6 (g5) 3 (intCells d.node.conf)) := hid ((by rw [← hP6]; exact Xn5_10.out.far (by omega) _))
  have Xn8_11 : Hid (BlockIs P6 (g8) 160 (entCells d.node.ents)) := hid ((by rw [← hP6]; exact Xn8_10.out.far (by omega) _))
  have Xn12_11 : Hid (BlockIs P6 (g12) 3 (intCells d.node.votes)) := hid ((by rw [← hP6]; exact Xn12_10.out.far (by omega) _))
  have Xn13_11 : Hid (BlockIs P6 (g13) 195 (peerCells d.node.peers)) := hid ((by rw [← hP6]; exact Xn13_10.out.far (by omega) _))
  have Xj_11 : Hid (BlockIs P6 (gj) 160 (entCells d.jents)) := hid ((by rw [← hP6]; exact Xj_10.out.far (by omega) _))
  have Xs_11 : Hid (BlockIs P6 (gs) 121 (sessionCells d.ss)) := hid ((by rw [← hP6]; exact Xs_10.out.far (by omega) _))
  have Xi_11 : Hid (BlockIs P6 (gi) 124 (itemCells d.items)) := hid ((by rw [← hP6]; exact Xi_10.out.far (by omega) _))
  have Of_11 : Hid (OwnAt P6 82 (fileCells d.files) d.files.length fa bf hf2) := hid ((by rw [← hP6]; exact own_setS Of_10.out (by omega) _))
  have B_11 : Hid (Below w.heap.size w P6) := hid ((by rw [← hP6]; exact B_10.out.setCell (by show _ ≤ w.heap.size + 1 + 1; omega) _))
  clear Xa_10 Xr_10 Xx_10 Xn5_10 Xn8_10 Xn12_10 Xn13_10 Xj_10 Xs_10 Xi_10 Of_10 B_10
  have y26_5 := Xa_11.out.cell (j := 26) rfl
  have o7 := Xx_11.out.cell (j := 26) rfl
  have f7 := Xx_11.out.thaw 26
  obtain ⟨P7, hP7⟩ : ∃ V, P6.setCell ⟨w.heap.size + 1 + 1, 26, none⟩ (.int .i64 d.sterm) = V := ⟨_, rfl⟩
  have Xa_12 : Hid (BlockIs P7 (w.heap.size) 50 [.int .i64 d.node.id, .int .i64 d.node.term, .int .i64 d.node.vote, .int .i64 d.node.role, .int .i64 d.node.lead, .slice p.node.co d.node.conf.length p.node.cc, .int .i64 d.node.start, .int .i64 d.node.sterm, .slice p.node.eo d.node.ents.length p.node.ec, .int .i64 d.node.commit, .int .i64 d.node.clock, .int .i64 d.node.limit, .slice p.node.vo d.node.votes.length p.node.vc, .slice p.node.po d.node.peers.length p.node.pc, .slice p.fo d.files.length p.fc, .int .i64 d.jn, .int .i64 d.jtm, .int .i64 d.jvt, .int .i64 d.js, .int .i64 d.jt, .slice p.jo d.jents.length p.jc, .slice p.so d.ss.length p.sc, .slice p.io d.items.length p.ic, .int .i64 d.applied, .string d.stage, .int .i64 d.sat, .int .i64 d.sterm]) := hid ((by rw [← hP7]; exact Xa_11.out.far (by omega) _))
  have Xr_12 : Hid (BlockIs P7 (w.heap.size + 1) 69 [.int .i64 0, .int .i64 0, .int .i64 0, .int .i64 0, .int .i64 0, .slice none 0 0, .int .i64 0, .int .i64 0, .slice none 0 0, .int .i64 0, .int .i64 0, .int .i64 0, .slice none 0 0, .slice none 0 0, .slice none 0 0, .int .i64 0, .int .i64 0, .int .i64 0, .int .i64 0, .int .i64 0, .slice none 0 0, .slice none 0 0, .slice none 0 0, .int .i64 0, .string ⟨#[]⟩, .int .i64 0, .int .i64 0]) := hid ((by rw [← hP7]; exact Xr_11.out.far (by omega) _))
  have Xx_12 : Hid (BlockIs P7 (w.heap.size + 1 + 1) 69 [.int .i64 d.node.id, .int .i64 d.node.term, .int .i64 d.node.vote, .int .i64 d.node.role, .int .i64 d.node.lead, .slice (some ⟨g5, 0, none⟩) d.node.conf.length d.node.conf.length, .int .i64 d.node.start, .int .i64 d.node.sterm, .slice (some ⟨g8, 0, none⟩) d.node.ents.length d.node.ents.length, .int .i64 d.node.commit, .int .i64 d.node.clock, .int .i64 d.node.limit, .slice (some ⟨g12, 0, none⟩) d.node.votes.length d.node.votes.length, .slice (some ⟨g13, 0, none⟩) d.node.peers.length d.node.peers.length, .slice fa d.files.length fb, .int .i64 d.jn, .int .i64 d.jtm, .int .i64 d.jvt, .int .i64 d.js, .int .i64 d.jt, .slice (some ⟨gj, 0, none⟩) d.jents.length d.jents.length, .slice (some ⟨gs, 0, none⟩) d.ss.length d.ss.length, .slice (some ⟨gi, 0, none⟩) d.items.length d.items.length, .int .i64 d.applied, .string d.stage, .int .i64 d.sat, .int .i64 d.sterm]) := hid ((by rw [← hP7]; exact Xx_11.out.set 26 _))
  have Xn5_12 : Hid (BlockIs P7 (g5) 3 (intCells d.node.conf)) := hid ((by rw [← hP7]; exact Xn5_11.out.far (by omega) _))
  have Xn8_12 : Hid (BlockIs P7 (g8) 160 (entCells d.node.ents)) := hid ((by rw [← hP7]; exact Xn8_11.out.far (by omega) _))
  have Xn12_12 : Hid (BlockIs P7 (g12) 3 (intCells d.node.votes)) := hid ((by rw [← hP7]; exact Xn12_11.out.far (by omega) _))
  have Xn13_12 : Hid (BlockIs P7 (g13) 195 (peerCells d.node.peers)) := hid ((by rw [← hP7]; exact Xn13_11.out.far (by omega) _))
  have Xj_12 : Hid (BlockIs P7 (gj) 160 (entCells d.jents)) := hid ((by rw [← hP7]; exact Xj_11.out.far (by omega) _))
  have Xs_12 : Hid (BlockIs P7 (gs) 121 (sessionCells d.ss)) := hid ((by rw [← hP7]; exact Xs_11.out.far (by omega) _))
  have Xi_12 : Hid (BlockIs P7 (gi) 124 (itemCells d.items)) := hid ((by rw [← hP7]; exact Xi_11.out.far (by omega) _))
  have Of_12 : Hid (OwnAt P7 82 (fileCells d.files) d.files.length fa bf hf2) := hid ((by rw [← hP7]; exact own_setS Of_11.out (by omega) _))
  have B_12 : Hid (Below w.heap.size w P7) := hid ((by rw [← hP7]; exact B_11.out.setCell (by show _ ≤ w.heap.size + 1 + 1; omega) _))
  clear Xa_11 Xr_11 Xx_11 Xn5_11 Xn8_11 Xn12_11 Xn13_11 Xj_11 Xs_11 Xi_11 Of_11 B_11
  obtain ⟨VL, hVL⟩ : ∃ V, P7.setRow (w.heap.size + 1) #[.int .i64 d.node.id, .int .i64 d.node.term, .int .i64 d.node.vote, .int .i64 d.node.role, .int .i64 d.node.lead, .slice (some ⟨g5, 0, none⟩) d.node.conf.length d.node.conf.length, .int .i64 d.node.start, .int .i64 d.node.sterm, .slice (some ⟨g8, 0, none⟩) d.node.ents.length d.node.ents.length, .int .i64 d.node.commit, .int .i64 d.node.clock, .int .i64 d.node.limit, .slice (some ⟨g12, 0, none⟩) d.node.votes.length d.node.votes.length, .slice (some ⟨g13, 0, none⟩) d.node.peers.length d.node.peers.length, .slice fa d.files.length fb, .int .i64 d.jn, .int .i64 d.jtm, .int .i64 d.jvt, .int .i64 d.js, .int .i64 d.jt, .slice (some ⟨gj, 0, none⟩) d.jents.length d.jents.length, .slice (some ⟨gs, 0, none⟩) d.ss.length d.ss.length, .slice (some ⟨gi, 0, none⟩) d.items.length d.items.length, .int .i64 d.applied, .string d.stage, .int .i64 d.sat, .int .i64 d.sterm] = V := ⟨_, rfl⟩
  have KL : BlockIs VL (w.heap.size + 1) 69 [.int .i64 d.node.id, .int .i64 d.node.term, .int .i64 d.node.vote, .int .i64 d.node.role, .int .i64 d.node.lead, .slice (some ⟨g5, 0, none⟩) d.node.conf.length d.node.conf.length, .int .i64 d.node.start, .int .i64 d.node.sterm, .slice (some ⟨g8, 0, none⟩) d.node.ents.length d.node.ents.length, .int .i64 d.node.commit, .int .i64 d.node.clock, .int .i64 d.node.limit, .slice (some ⟨g12, 0, none⟩) d.node.votes.length d.node.votes.length, .slice (some ⟨g13, 0, none⟩) d.node.peers.length d.node.peers.length, .slice fa d.files.length fb, .int .i64 d.jn, .int .i64 d.jtm, .int .i64 d.jvt, .int .i64 d.js, .int .i64 d.jt, .slice (some ⟨gj, 0, none⟩) d.jents.length d.jents.length, .slice (some ⟨gs, 0, none⟩) d.ss.length d.ss.length, .slice (some ⟨gi, 0, none⟩) d.items.length d.items.length, .int .i64 d.applied, .string d.stage, .int .i64 d.sat, .int .i64 d.sterm] := by rw [← hVL]; exact whole_block Xr_12.out _
  have BL : Hid (Below w.heap.size w VL) := by rw [← hVL]; exact below_setRow B_12.out (by omega) _
  have SL : Hid (ServOwn VL d g5 g8 g12 g13 fa bf hf2 gj gs gi) := by
    rw [← hVL]
    exact ⟨⟨whole_other Xn5_12.out (by omega) _, whole_other Xn8_12.out (by omega) _, whole_other Xn12_12.out (by omega) _, whole_other Xn13_12.out (by omega) _⟩, own_rowS Of_12.out (by omega) _, whole_other Xj_12.out (by omega) _, whole_other Xs_12.out (by omega) _, whole_other Xi_12.out (by omega) _⟩
  have HKL := hid KL
  clear KL
  go_wp2_with (first | (refine wpList_store_mid rfl _ _ _ rfl _ 21 #[.slice (some ⟨gs, 0, none⟩) d.ss.length d.ss.length, .slice (some ⟨gi, 0, none⟩) d.items.length d.items.length] rfl rfl (mid_there KX3.out (Nat.le_of_ble_eq_true rfl)) szimplKeep (by simp [Value.oneCell']) ?_; rw [hP3]) | (refine wpList_load_whole Tryz.underlying69 serv_size Xx_12.out rfl rfl _ rfl rfl ?_) | (refine wpList_store_whole serv_size Xr_12.out rfl rfl _ _ rfl _ rfl rfl rfl (by simp [Value.oneCell']) ?_; rw [hVL]) | fail)
  refine bodyPost_ret (v := .agg #[.int .i64 d.node.id, .int .i64 d.node.term, .int .i64 d.node.vote, .int .i64 d.node.role, .int .i64 d.node.lead, .slice (some ⟨g5, 0, none⟩) d.node.conf.length d.node.conf.length, .int .i64 d.node.start, .int .i64 d.node.sterm, .slice (some ⟨g8, 0, none⟩) d.node.ents.length d.node.ents.length, .int .i64 d.node.commit, .int .i64 d.node.clock, .int .i64 d.node.limit, .slice (some ⟨g12, 0, none⟩) d.node.votes.length d.node.votes.length, .slice (some ⟨g13, 0, none⟩) d.node.peers.length d.node.peers.length, .slice fa d.files.length fb, .int .i64 d.jn, .int .i64 d.jtm, .int .i64 d.jvt, .int .i64 d.js, .int .i64 d.jt, .slice (some ⟨gj, 0, none⟩) d.jents.length d.jents.length, .slice (some ⟨gs, 0, none⟩) d.ss.length d.ss.length, .slice (some ⟨gi, 0, none⟩) d.items.length d.items.length, .int .i64 d.applied, .string d.stage, .int .i64 d.sat, .int .i64 d.sterm]) (results_whole Tryz.underlying69 serv_size Tryz.results15 rfl HKL.out rfl) rfl ?_
  exact ⟨g5, g8, g12, g13, fa, fb, bf, hf2, gj, gs, gi, ⟨by omega, by omega, by omega, by omega, by omega, by omega, by omega, by omega, by omega⟩, rfl, SL.out, BL.out⟩
end Go.Proofs.YtihgkocfgjihhaaGreatDoor

namespace Go.Proofs.YtihgkocfgjihhaaGreatDoor
open Go.RowKit Go.Sort

set_option maxRecDepth 1000000 in
theorem eqPeer_same (f : PeerD) (w : World) :
    Calls Tryz.prog 152 #[.agg #[.int .i64 f.pid, .int .i64 f.next, .int .i64 f.upto, .int .i64 f.sent], .agg #[.int .i64 f.pid, .int .i64 f.next, .int .i64 f.upto, .int .i64 f.sent]] w fun e w' => e = .returned (.bool true) ∧ Below w.heap.size w w' := by
  have hb : Hid (∀ (o p : Obj), Below w.heap.size w ((w.alloc o).alloc p)) := fun o p => ((Below.refl _ w).alloc (Nat.le_refl _) _).alloc (by simp [World.alloc, -World.alloc_eq]) _
  go_enter Tryz.func152, Tryz.ntmps152
  go_wp2
  go_ret
  exact ⟨rfl, hb.out _ _⟩

set_option maxRecDepth 1000000 in
set_option maxHeartbeats 1000000 in
theorem eqPeerS_same (ao bo : Option Addr) (l : List PeerD) (cap cap' : Nat) (hl : l.length ≤ 140737488355328) (w : World) (ha : PeersAt w ao l) (hb : PeersAt w bo l) :
    Calls Tryz.prog 102 #[.slice ao l.length cap, .slice bo l.length cap'] w fun e w' => e = .returned (.bool true) ∧ Below w.heap.size w w' := by
  have HA := hid ha
  have HB := hid hb
  clear ha hb
  go_enter Tryz.func102, Tryz.ntmps102
  go_wp2
  go_loopg [5] l.length (fun g i wr => ∃ (k : Nat), k + g = l.length ∧ i = .int .i64 k ∧ Hid (Below w.heap.size w wr))
  case atStart => exact ⟨0, by omega, rfl, (show Below _ _ _ from Below.refl _ _)⟩
  case round =>
    obtain ⟨k, hkg, rfl, BR⟩ := hrel
    cases gk with
    | zero =>
      have hlt : ¬ (k : Int) < (l.length : Int) := by omega
      go_wp2
      go_ret
      exact ⟨rfl, BR.out⟩
    | succ g =>
      have hlt : k < l.length := by omega
      have hlt' : (k : Int) < (l.length : Int) := by omega
      have hne : l ≠ [] := by intro e; rw [e] at hlt; simp at hlt
      obtain ⟨b, off, rfl, hc⟩ := HA.out.on BR.out hne
      obtain ⟨x0, x1, x2, x3⟩ := hc k hlt
      obtain ⟨b', off', rfl, hc'⟩ := HB.out.on BR.out hne
      obtain ⟨y0, y1, y2, y3⟩ := hc' k hlt
      have X0 := cell_regrown x0
      have Y0 := cell_regrown y0
      have X1 := cell_regrown x1
      have Y1 := cell_regrown y1
      have X2 := cell_regrown x2
      have Y2 := cell_regrown y2
      have X3 := cell_regrown x3
      have Y3 := cell_regrown y3
      clear hc hc' x0 x1 x2 x3 y0 y1 y2 y3
      have C' := fun d os => Calls.regrown_of (w := wr) (d := d) (os := os) (eqPeer_same l[k] _)
      have C := hid C'
      clear C'
      go_wp2
      refine wp_region_quiet_below (by kernel_rfl) (by kernel_rfl) ?_
      repeat (first | go_big_quiet_step (first | (go_at_call 152; exact C.out _ _) | fail) | quiet_step (first | (go_at_call 152; exact C.out _ _) | fail))
      refine wpQuiet_nil ?_
      intro _ hw'
      obtain ⟨⟨dq, osq⟩, hw''⟩ := hw'
      subst hw''
      have BQ : Hid (Below w.heap.size w (grow (redrawn wr dq) osq)) := BR.out.trans ((below_regrown wr dq osq).mono BR.out.size)
      generalize grow (redrawn wr dq) osq = wq at BQ ⊢
      clear X0 X1 X2 X3 Y0 Y1 Y2 Y3 C
      go_wp2
      go_roundg g
      case measure => omega
      case rel => exact ⟨k + 1, by omega, by go_num, BQ⟩
end Go.Proofs.YtihgkocfgjihhaaGreatDoor
