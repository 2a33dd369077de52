/-
  Marks over a node's, a journal's, a keep's rows of the call's own: what else there is stays.
-/
import Derived.Test.YtihgkocfgjihhaaGreatDoorJoint21
import Derived.Test.YtihgkocfgjihhaaGreatDoorJoint24
import Derived.Test.YtihgkocfgjihhaaGreatDoorJoint25
import Derived.Test.YtihgkocfgjihhaaGreatDoorJoint26
import Derived.Test.YtihgkocfgjihhaaGreatDoorJoint1
namespace Go.Proofs.YtihgkocfgjihhaaGreatDoor
open Go.ChangeShapes Go.WideShapes Go.RowKit Go.Deep

theorem kept_belowS {w w' : World} {lo hi : Nat} (hb : Below w.heap.size w w') : KeptBut lo hi w w' := fun _ _ _ _ h => h.on hb h.lt
theorem kept_grownS {w w' : World} {lo hi g : Nat} (hg : w.grownBy w' (some g)) (h1 : lo ≤ g) (h2 : g < hi) : KeptBut lo hi w w' := fun _ _ _ hj h => blk_grown h hg (by rintro rfl; exact hj ⟨h1, h2⟩)
theorem kept_thenS {a b c : World} {lo hi : Nat} (h1 : KeptBut lo hi a b) (h2 : KeptBut lo hi b c) : KeptBut lo hi a c := fun j t cs hj h => h2 j t cs hj (h1 j t cs hj h)
theorem markInt_g (g : Nat) (l : List Int) (cap m : Nat) (hm : m ≤ 10000000) (hl : l.length ≤ 1048576) (w : World) (hb : BlockIs w g 3 (intCells l)) :
    Calls Tryz.prog 10 #[.slice (some ⟨g, 0, none⟩) l.length cap, .int .i64 m] w fun e w' => e = .returned (.int .i64 ((m + l.length : Nat) : Int)) ∧ w.grownBy w' (some g) := by
  refine (markIntS_any g l cap m hm hl w hb).mono ?_
  rintro e w' ⟨rfl, _, h⟩
  exact ⟨rfl, h⟩
theorem markPeer_g (g : Nat) (l : List PeerD) (cap m : Nat) (hm : m ≤ 10000000) (hl : l.length ≤ 1048576) (w : World) (hb : BlockIs w g 195 (peerCells l)) :
    Calls Tryz.prog 106 #[.slice (some ⟨g, 0, none⟩) l.length cap, .int .i64 m] w fun e w' => e = .returned (.int .i64 ((m + 4 * l.length : Nat) : Int)) ∧ w.grownBy w' (some g) := by
  refine (markPeerS_any g l cap m [] hm hl w (by rw [List.append_nil]; exact hb)).mono ?_
  rintro e w' ⟨rfl, _, h⟩
  exact ⟨rfl, h⟩
theorem markSession_g (g : Nat) (l : List SessionD) (cap m : Nat) (hm : m ≤ 10000000) (hl : l.length ≤ 1048576) (w : World) (hb : BlockIs w g 121 (sessionCells l)) :
    Calls Tryz.prog 107 #[.slice (some ⟨g, 0, none⟩) l.length cap, .int .i64 m] w fun e w' => e = .returned (.int .i64 ((m + 3 * l.length : Nat) : Int)) ∧ w.grownBy w' (some g) := by
  refine (markSessionS_any g l cap m [] hm hl w (by rw [List.append_nil]; exact hb)).mono ?_
  rintro e w' ⟨rfl, _, h⟩
  exact ⟨rfl, h⟩
theorem markItem_g (g : Nat) (l : List ItemD) (cap m : Nat) (hm : m ≤ 10000000) (hl : l.length ≤ 1048576) (w : World) (hb : BlockIs w g 124 (itemCells l)) :
    Calls Tryz.prog 108 #[.slice (some ⟨g, 0, none⟩) l.length cap, .int .i64 m] w fun e w' => e = .returned (.int .i64 ((m + 3 * l.length : Nat) : Int)) ∧ w.grownBy w' (some g) := by
  refine (markItemS_any g l cap m [] hm hl w (by rw [List.append_nil]; exact hb)).mono ?_
  rintro e w' ⟨rfl, _, h⟩
  exact ⟨rfl, h⟩
set_option maxRecDepth 1000000 in
set_option maxHeartbeats 1000000 in
theorem markLog_w (s t : Int) (g m : Nat) (l : List EntD) (hm : m ≤ 10000000) (hl : l.length ≤ 1048576) (w : World) (hb : BlockIs w g 160 (entCells l)) :
    Calls Tryz.prog 105 #[.agg #[.int .i64 s, .int .i64 t, .slice (some ⟨g, 0, none⟩) l.length l.length], .int .i64 m] w fun e w' => e = .returned (.int .i64 ((m + 3 * l.length : Nat) : Int)) ∧ w.grownBy w' (some g) := by
  have be := below_more (Below.refl w.heap.size w) (.cells #[.int .i64 s, .int .i64 t, .slice (some ⟨g, 0, none⟩) l.length l.length] 58)
  have x1 : BlockIs (w.alloc (.cells #[.int .i64 s, .int .i64 t, .slice (some ⟨g, 0, none⟩) l.length l.length] 58)) w.heap.size 58 [.int .i64 s, .int .i64 t, .slice (some ⟨g, 0, none⟩) l.length l.length] := heap_alloc_new w _
  have HE := hid (hb.on be hb.lt)
  have HG := hid (grown_of_below be (some g))
  have c2 := x1.cell (j := 2) rfl
  clear be x1 hb
  go_enter Tryz.func105, Tryz.ntmps105
  go_wp2_with fail
  refine Calls.mono (markEntryS_any g l l.length m [] hm hl _ (by rw [List.append_nil]; exact HE.out)) ?_
  rintro e w1 ⟨rfl, _, hg⟩
  have HG2 := hid (HG.out.trans hg)
  clear hg HG HE
  go_wp2
  go_ret
  exact ⟨rfl, HG2.out⟩
set_option maxRecDepth 1000000 in
theorem szimplLog : (Tryz.prog.info? 58).map (·.size) = some 3 := by kernel_rfl
set_option maxRecDepth 1000000 in
set_option maxHeartbeats 4000000 in
theorem markNode_w (d : NodeD) (g5 g8 g12 g13 lo hi : Nat) (hsum : d.conf.length + d.ents.length + d.votes.length + d.peers.length ≤ 1048576) (i1 : lo ≤ g5) (i2 : g5 < g8) (i3 : g8 < g12) (i4 : g12 < g13) (i5 : g13 < hi) (w : World) (hw : lo ≤ w.heap.size) (hN : NodeOwn w d g5 g8 g12 g13) :
    Calls Tryz.prog 50 #[.agg #[.int .i64 d.id, .int .i64 d.term, .int .i64 d.vote, .int .i64 d.role, .int .i64 d.lead, .slice (some ⟨g5, 0, none⟩) d.conf.length d.conf.length, .int .i64 d.start, .int .i64 d.sterm, .slice (some ⟨g8, 0, none⟩) d.ents.length d.ents.length, .int .i64 d.commit, .int .i64 d.clock, .int .i64 d.limit, .slice (some ⟨g12, 0, none⟩) d.votes.length d.votes.length, .slice (some ⟨g13, 0, none⟩) d.peers.length d.peers.length], .int .i64 1] w fun e w' => e = .returned (.int .i64 ((1 + d.conf.length + 3 * d.ents.length + d.votes.length + 4 * d.peers.length : Nat) : Int)) ∧ KeptBut lo hi w w' ∧ Below lo w w' := by
  have be := below_more (Below.refl w.heap.size w) (.cells #[.int .i64 d.id, .int .i64 d.term, .int .i64 d.vote, .int .i64 d.role, .int .i64 d.lead, .slice (some ⟨g5, 0, none⟩) d.conf.length d.conf.length, .int .i64 d.start, .int .i64 d.sterm, .slice (some ⟨g8, 0, none⟩) d.ents.length d.ents.length, .int .i64 d.commit, .int .i64 d.clock, .int .i64 d.limit, .slice (some ⟨g12, 0, none⟩) d.votes.length d.votes.length, .slice (some ⟨g13, 0, none⟩) d.peers.length d.peers.length] 61)
  have x1 : BlockIs (w.alloc (.cells #[.int .i64 d.id, .int .i64 d.term, .int .i64 d.vote, .int .i64 d.role, .int .i64 d.lead, .slice (some ⟨g5, 0, none⟩) d.conf.length d.conf.length, .int .i64 d.start, .int .i64 d.sterm, .slice (some ⟨g8, 0, none⟩) d.ents.length d.ents.length, .int .i64 d.commit, .int .i64 d.clock, .int .i64 d.limit, .slice (some ⟨g12, 0, none⟩) d.votes.length d.votes.length, .slice (some ⟨g13, 0, none⟩) d.peers.length d.peers.length] 61)) w.heap.size 61 [.int .i64 d.id, .int .i64 d.term, .int .i64 d.vote, .int .i64 d.role, .int .i64 d.lead, .slice (some ⟨g5, 0, none⟩) d.conf.length d.conf.length, .int .i64 d.start, .int .i64 d.sterm, .slice (some ⟨g8, 0, none⟩) d.ents.length d.ents.length, .int .i64 d.commit, .int .i64 d.clock, .int .i64 d.limit, .slice (some ⟨g12, 0, none⟩) d.votes.length d.votes.length, .slice (some ⟨g13, 0, none⟩) d.peers.length d.peers.length] := heap_alloc_new w _
  obtain ⟨W0, hW0⟩ : ∃ W, w.alloc (.cells #[.int .i64 d.id, .int .i64 d.term, .int .i64 d.vote, .int .i64 d.role, .int .i64 d.lead, .slice (some ⟨g5, 0, none⟩) d.conf.length d.conf.length, .int .i64 d.start, .int .i64 d.sterm, .slice (some ⟨g8, 0, none⟩) d.ents.length d.ents.length, .int .i64 d.commit, .int .i64 d.clock, .int .i64 d.limit, .slice (some ⟨g12, 0, none⟩) d.votes.length d.votes.length, .slice (some ⟨g13, 0, none⟩) d.peers.length d.peers.length] 61) = W := ⟨_, rfl⟩
  rw [hW0] at be x1
  have Xa_0 := hid x1
  have B_0 : Hid (Below lo w W0) := hid (be.mono hw)
  have KP_0 : Hid (KeptBut lo hi w W0) := hid (kept_belowS be)
  have Xn5_0 := hid (hN.conf.on be hN.conf.lt)
  have ltn5 : g5 < w.heap.size := hN.conf.lt
  have Xn8_0 := hid (hN.ents.on be hN.ents.lt)
  have ltn8 : g8 < w.heap.size := hN.ents.lt
  have Xn12_0 := hid (hN.votes.on be hN.votes.lt)
  have ltn12 : g12 < w.heap.size := hN.votes.lt
  have Xn13_0 := hid (hN.peers.on be hN.peers.lt)
  have ltn13 : g13 < w.heap.size := hN.peers.lt
  clear be x1 
  have KA := Xa_0
  go_enter Tryz.func50, Tryz.ntmps50
  have y5_1 := Xa_0.out.cell (j := 5) rfl
  go_wp2_with fail
  refine Calls.mono (markInt_g g5 d.conf d.conf.length 1 (by omega) (by omega) _ Xn5_0.out) ?_
  rintro e w1 ⟨rfl, hg⟩
  clear KA y5_1 hW0
  clear Xn5_0
  have hsz : w.heap.size ≤ W0.heap.size := Nat.le_of_lt Xa_0.out.lt
  have Xa_1 : Hid (BlockIs w1 (w.heap.size) 61 [.int .i64 d.id, .int .i64 d.term, .int .i64 d.vote, .int .i64 d.role, .int .i64 d.lead, .slice (some ⟨g5, 0, none⟩) d.conf.length d.conf.length, .int .i64 d.start, .int .i64 d.sterm, .slice (some ⟨g8, 0, none⟩) d.ents.length d.ents.length, .int .i64 d.commit, .int .i64 d.clock, .int .i64 d.limit, .slice (some ⟨g12, 0, none⟩) d.votes.length d.votes.length, .slice (some ⟨g13, 0, none⟩) d.peers.length d.peers.length]) := hid (blk_grown Xa_0.out hg (by omega))
  have Xn8_1 : Hid (BlockIs w1 (g8) 160 (entCells d.ents)) := hid (blk_grown Xn8_0.out hg (by omega))
  have Xn12_1 : Hid (BlockIs w1 (g12) 3 (intCells d.votes)) := hid (blk_grown Xn12_0.out hg (by omega))
  have Xn13_1 : Hid (BlockIs w1 (g13) 195 (peerCells d.peers)) := hid (blk_grown Xn13_0.out hg (by omega))
  have B_1 : Hid (Below lo w w1) := hid (below_grown B_0.out hg (by omega) (by omega))
  have KP_1 : Hid (KeptBut lo hi w w1) := hid (kept_thenS KP_0.out (kept_grownS hg (by omega) (by omega)))
  clear Xa_0 Xn8_0 Xn12_0 Xn13_0 B_0 KP_0
  clear hg hsz
  have KA := Xa_1
  go_wp2_with (first | (refine wpList_load_mid rfl _ _ rfl _ 6 rfl [.int .i64 d.start, .int .i64 d.sterm, .slice (some ⟨g8, 0, none⟩) d.ents.length d.ents.length] _ (mid_range KA.out rfl) Tryz.underlying58 rfl szimplLog ?_) | fail)
  refine Calls.mono (markLog_w d.start d.sterm g8 (1 + d.conf.length) d.ents (by omega) (by omega) _ Xn8_1.out) ?_
  rintro e w2 ⟨rfl, hg⟩
  clear KA 
  clear Xn8_1
  have hsz : w.heap.size ≤ w1.heap.size := Nat.le_of_lt Xa_1.out.lt
  have Xa_2 : Hid (BlockIs w2 (w.heap.size) 61 [.int .i64 d.id, .int .i64 d.term, .int .i64 d.vote, .int .i64 d.role, .int .i64 d.lead, .slice (some ⟨g5, 0, none⟩) d.conf.length d.conf.length, .int .i64 d.start, .int .i64 d.sterm, .slice (some ⟨g8, 0, none⟩) d.ents.length d.ents.length, .int .i64 d.commit, .int .i64 d.clock, .int .i64 d.limit, .slice (some ⟨g12, 0, none⟩) d.votes.length d.votes.length, .slice (some ⟨g13, 0, none⟩) d.peers.length d.peers.length]) := hid (blk_grown Xa_1.out hg (by omega))
  have Xn12_2 : Hid (BlockIs w2 (g12) 3 (intCells d.votes)) := hid (blk_grown Xn12_1.out hg (by omega))
  have Xn13_2 : Hid (BlockIs w2 (g13) 195 (peerCells d.peers)) := hid (blk_grown Xn13_1.out hg (by omega))
  have B_2 : Hid (Below lo w w2) := hid (below_grown B_1.out hg (by omega) (by omega))
  have KP_2 : Hid (KeptBut lo hi w w2) := hid (kept_thenS KP_1.out (kept_grownS hg (by omega) (by omega)))
  clear Xa_1 Xn12_1 Xn13_1 B_1 KP_1
  clear hg hsz
  have KA := Xa_2
  have y12_2 := Xa_2.out.cell (j := 12) rfl
  go_wp2_with fail
  refine Calls.mono (markInt_g g12 d.votes d.votes.length (1 + d.conf.length + 3 * d.ents.length) (by omega) (by omega) _ Xn12_2.out) ?_
  rintro e w3 ⟨rfl, hg⟩
  clear KA y12_2
  clear Xn12_2
  have hsz : w.heap.size ≤ w2.heap.size := Nat.le_of_lt Xa_2.out.lt
  have Xa_3 : Hid (BlockIs w3 (w.heap.size) 61 [.int .i64 d.id, .int .i64 d.term, .int .i64 d.vote, .int .i64 d.role, .int .i64 d.lead, .slice (some ⟨g5, 0, none⟩) d.conf.length d.conf.length, .int .i64 d.start, .int .i64 d.sterm, .slice (some ⟨g8, 0, none⟩) d.ents.length d.ents.length, .int .i64 d.commit, .int .i64 d.clock, .int .i64 d.limit, .slice (some ⟨g12, 0, none⟩) d.votes.length d.votes.length, .slice (some ⟨g13, 0, none⟩) d.peers.length d.peers.length]) := hid (blk_grown Xa_2.out hg (by omega))
  have Xn13_3 : Hid (BlockIs w3 (g13) 195 (peerCells d.peers)) := hid (blk_grown Xn13_2.out hg (by omega))
  have B_3 : Hid (Below lo w w3) := hid (below_grown B_2.out hg (by omega) (by omega))
  have KP_3 : Hid (KeptBut lo hi w w3) := hid (kept_thenS KP_2.out (kept_grownS hg (by omega) (by omega)))
  clear Xa_2 Xn13_2 B_2 KP_2
  clear hg hsz
  have KA := Xa_3
  have y13_3 := Xa_3.out.cell (j := 13) rfl
  go_wp2_with fail
  refine Calls.mono (markPeer_g g13 d.peers d.peers.length (1 + d.conf.length + 3 * d.ents.length + d.votes.length) (by omega) (by omega) _ Xn13_3.out) ?_
  rintro e w4 ⟨rfl, hg⟩
  clear KA y13_3
  clear Xn13_3
  have hsz : w.heap.size ≤ w3.heap.size := Nat.le_of_lt Xa_3.out.lt
  have Xa_4 : Hid (BlockIs w4 (w.heap.size) 61 [.int .i64 d.id, .int .i64 d.term, .int .i64 d.vote, .int .i64 d.role, .int .i64 d.lead, .slice (some ⟨g5, 0, none⟩) d.conf.length d.conf.length, .int .i64 d.start, .int .i64 d.sterm, .slice (some ⟨g8, 0, none⟩) d.ents.length d.ents.length, .int .i64 d.commit, .int .i64 d.clock, .int .i64 d.limit, .slice (some ⟨g12, 0, none⟩) d.votes.length d.votes.length, .slice (some ⟨g13, 0, none⟩) d.peers.length d.peers.length]) := hid (blk_grown Xa_3.out hg (by omega))
  have B_4 : Hid (Below lo w w4) := hid (below_grown B_3.out hg (by omega) (by omega))
  have KP_4 : Hid (KeptBut lo hi w w4) := hid (kept_thenS KP_3.out (kept_grownS hg (by omega) (by omega)))
  clear Xa_3 B_3 KP_3
  clear hg hsz
  go_wp2
  go_ret
  exact ⟨rfl, KP_4.out, B_4.out⟩
set_option maxRecDepth 1000000 in
set_option maxHeartbeats 4000000 in
theorem markJournal_w (n tm vt s t : Int) (gj m lo hi : Nat) (l : List EntD) (hm : m ≤ 10000000) (hl : l.length ≤ 1048576) (i1 : lo ≤ gj) (i2 : gj < hi) (w : World) (hw : lo ≤ w.heap.size) (hJ : BlockIs w gj 160 (entCells l)) :
    Calls Tryz.prog 51 #[.agg #[.int .i64 n, .int .i64 tm, .int .i64 vt, .int .i64 s, .int .i64 t, .slice (some ⟨gj, 0, none⟩) l.length l.length], .int .i64 m] w fun e w' => e = .returned (.int .i64 ((m + 3 * l.length : Nat) : Int)) ∧ KeptBut lo hi w w' ∧ Below lo w w' := by
  have be := below_more (Below.refl w.heap.size w) (.cells #[.int .i64 n, .int .i64 tm, .int .i64 vt, .int .i64 s, .int .i64 t, .slice (some ⟨gj, 0, none⟩) l.length l.length] 63)
  have x1 : BlockIs (w.alloc (.cells #[.int .i64 n, .int .i64 tm, .int .i64 vt, .int .i64 s, .int .i64 t, .slice (some ⟨gj, 0, none⟩) l.length l.length] 63)) w.heap.size 63 [.int .i64 n, .int .i64 tm, .int .i64 vt, .int .i64 s, .int .i64 t, .slice (some ⟨gj, 0, none⟩) l.length l.length] := heap_alloc_new w _
  obtain ⟨W0, hW0⟩ : ∃ W, w.alloc (.cells #[.int .i64 n, .int .i64 tm, .int .i64 vt, .int .i64 s, .int .i64 t, .slice (some ⟨gj, 0, none⟩) l.length l.length] 63) = W := ⟨_, rfl⟩
  rw [hW0] at be x1
  have Xa_0 := hid x1
  have B_0 : Hid (Below lo w W0) := hid (be.mono hw)
  have KP_0 : Hid (KeptBut lo hi w W0) := hid (kept_belowS be)
  have Xj_0 := hid (hJ.on be hJ.lt)
  have ltj : gj < w.heap.size := hJ.lt
  clear be x1 hJ
  have KA := Xa_0
  go_enter Tryz.func51, Tryz.ntmps51
  go_wp2_with (first | (refine wpList_load_mid rfl _ _ rfl _ 3 rfl [.int .i64 s, .int .i64 t, .slice (some ⟨gj, 0, none⟩) l.length l.length] _ (mid_range KA.out rfl) Tryz.underlying58 rfl szimplLog ?_) | fail)
  refine Calls.mono (markLog_w s t gj m l hm hl _ Xj_0.out) ?_
  rintro e w1 ⟨rfl, hg⟩
  clear KA  hW0
  clear Xj_0
  have hsz : w.heap.size ≤ W0.heap.size := Nat.le_of_lt Xa_0.out.lt
  have Xa_1 : Hid (BlockIs w1 (w.heap.size) 63 [.int .i64 n, .int .i64 tm, .int .i64 vt, .int .i64 s, .int .i64 t, .slice (some ⟨gj, 0, none⟩) l.length l.length]) := hid (blk_grown Xa_0.out hg (by omega))
  have B_1 : Hid (Below lo w w1) := hid (below_grown B_0.out hg (by omega) (by omega))
  have KP_1 : Hid (KeptBut lo hi w w1) := hid (kept_thenS KP_0.out (kept_grownS hg (by omega) (by omega)))
  clear Xa_0 B_0 KP_0
  clear hg hsz
  go_wp2
  go_ret
  exact ⟨rfl, KP_1.out, B_1.out⟩
set_option maxRecDepth 1000000 in
set_option maxHeartbeats 4000000 in
theorem markKeep_w (gs gi m lo hi : Nat) (ss : List SessionD) (li : List ItemD) (hm : m ≤ 10000000) (hm2 : m + 3 * ss.length ≤ 10000000) (hl : ss.length ≤ 1048576) (hl2 : li.length ≤ 1048576) (i1 : lo ≤ gs) (i2 : gs < gi) (i3 : gi < hi) (w : World) (hw : lo ≤ w.heap.size) (hS : BlockIs w gs 121 (sessionCells ss)) (hI : BlockIs w gi 124 (itemCells li)) :
    Calls Tryz.prog 52 #[.agg #[.slice (some ⟨gs, 0, none⟩) ss.length ss.length, .slice (some ⟨gi, 0, none⟩) li.length li.length], .int .i64 m] w fun e w' => e = .returned (.int .i64 ((m + 3 * ss.length + 3 * li.length : Nat) : Int)) ∧ KeptBut lo hi w w' ∧ Below lo w w' := by
  have be := below_more (Below.refl w.heap.size w) (.cells #[.slice (some ⟨gs, 0, none⟩) ss.length ss.length, .slice (some ⟨gi, 0, none⟩) li.length li.length] 67)
  have x1 : BlockIs (w.alloc (.cells #[.slice (some ⟨gs, 0, none⟩) ss.length ss.length, .slice (some ⟨gi, 0, none⟩) li.length li.length] 67)) w.heap.size 67 [.slice (some ⟨gs, 0, none⟩) ss.length ss.length, .slice (some ⟨gi, 0, none⟩) li.length li.length] := heap_alloc_new w _
  obtain ⟨W0, hW0⟩ : ∃ W, w.alloc (.cells #[.slice (some ⟨gs, 0, none⟩) ss.length ss.length, .slice (some ⟨gi, 0, none⟩) li.length li.length] 67) = W := ⟨_, rfl⟩
  rw [hW0] at be x1
  have Xa_0 := hid x1
  have B_0 : Hid (Below lo w W0) := hid (be.mono hw)
  have KP_0 : Hid (KeptBut lo hi w W0) := hid (kept_belowS be)
  have Xs_0 := hid (hS.on be hS.lt)
  have lts : gs < w.heap.size := hS.lt
  have Xi_0 := hid (hI.on be hI.lt)
  have lti : gi < w.heap.size := hI.lt
  clear be x1 hS hI
  have KA := Xa_0
  go_enter Tryz.func52, Tryz.ntmps52
  have y0_1 := Xa_0.out.cell (j := 0) rfl
  go_wp2_with fail
  refine Calls.mono (markSession_g gs ss ss.length m hm (by omega) _ Xs_0.out) ?_
  rintro e w1 ⟨rfl, hg⟩
  clear KA y0_1 hW0
  clear Xs_0
  have hsz : w.heap.size ≤ W0.heap.size := Nat.le_of_lt Xa_0.out.lt
  have Xa_1 : Hid (BlockIs w1 (w.heap.size) 67 [.slice (some ⟨gs, 0, none⟩) ss.length ss.length, .slice (some ⟨gi, 0, none⟩) li.length li.length]) := hid (blk_grown Xa_0.out hg (by omega))
  have Xi_1 : Hid (BlockIs w1 (gi) 124 (itemCells li)) := hid (blk_grown Xi_0.out hg (by omega))
  have B_1 : Hid (Below lo w w1) := hid (below_grown B_0.out hg (by omega) (by omega))
  have KP_1 : Hid (KeptBut lo hi w w1) := hid (kept_thenS KP_0.out (kept_grownS hg (by omega) (by omega)))
  clear Xa_0 Xi_0 B_0 KP_0
  clear hg hsz
  have KA := Xa_1
  have y1_2 := Xa_1.out.cell (j := 1) rfl
  go_wp2_with fail
  refine Calls.mono (markItem_g gi li li.length (m + 3 * ss.length) hm2 (by omega) _ Xi_1.out) ?_
  rintro e w2 ⟨rfl, hg⟩
  clear KA y1_2
  clear Xi_1
  have hsz : w.heap.size ≤ w1.heap.size := Nat.le_of_lt Xa_1.out.lt
  have Xa_2 : Hid (BlockIs w2 (w.heap.size) 67 [.slice (some ⟨gs, 0, none⟩) ss.length ss.length, .slice (some ⟨gi, 0, none⟩) li.length li.length]) := hid (blk_grown Xa_1.out hg (by omega))
  have B_2 : Hid (Below lo w w2) := hid (below_grown B_1.out hg (by omega) (by omega))
  have KP_2 : Hid (KeptBut lo hi w w2) := hid (kept_thenS KP_1.out (kept_grownS hg (by omega) (by omega)))
  clear Xa_1 B_1 KP_1
  clear hg hsz
  go_wp2
  go_ret
  exact ⟨rfl, KP_2.out, B_2.out⟩

end Go.Proofs.YtihgkocfgjihhaaGreatDoor
