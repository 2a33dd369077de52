/-
  A server that a law has copied: where its rows lie, what stays of them.
  The walk of laws.eqSnap.
-/
import Derived.Test.YtihgkocfgjihhaaGreatDoorJoint21
import Derived.Test.YtihgkocfgjihhaaGreatDoorJoint5
import Derived.Test.YtihgkocfgjihhaaGreatDoorJoint1
namespace Go.Proofs.YtihgkocfgjihhaaGreatDoor
open Go.RowKit

def servNew (d : ServD) (g5 g8 g12 g13 : Nat) (fa : Option Addr) (fb gj gs gi : Nat) : ServL := ⟨nodeNew d.node g5 g8 g12 g13, fa, fb, some ⟨gj, 0, none⟩, d.jents.length, some ⟨gs, 0, none⟩, d.ss.length, some ⟨gi, 0, none⟩, d.items.length⟩
theorem ServOwn.on {W W' : World} {d : ServD} {g5 g8 g12 g13 : Nat} {fa : Option Addr} {bf hf gj gs gi : Nat} (h : ServOwn W d g5 g8 g12 g13 fa bf hf gj gs gi) (hb : Below W.heap.size W W') : ServOwn W' d g5 g8 g12 g13 fa bf hf gj gs gi :=
  ⟨⟨h.node.conf.on hb h.node.conf.lt, h.node.ents.on hb h.node.ents.lt, h.node.votes.on hb h.node.votes.lt, h.node.peers.on hb h.node.peers.lt⟩, h.files.on hb, h.jents.on hb h.jents.lt, h.ss.on hb h.ss.lt, h.items.on hb h.items.lt⟩
theorem ServOwn.at {W : World} {d : ServD} {g5 g8 g12 g13 : Nat} {fa : Option Addr} {bf hf gj gs gi : Nat} (h : ServOwn W d g5 g8 g12 g13 fa bf hf gj gs gi) (fb : Nat) : ServAt W d (servNew d g5 g8 g12 g13 fa fb gj gs gi) :=
  ⟨h.node.at, h.files.files, entsAt_of (r := []) (by rw [List.append_nil]; exact h.jents), sessionsAt_of (r := []) (by rw [List.append_nil]; exact h.ss), itemsAt_of (r := []) (by rw [List.append_nil]; exact h.items)⟩
end Go.Proofs.YtihgkocfgjihhaaGreatDoor

namespace Go.Proofs.YtihgkocfgjihhaaGreatDoor
open Go.RowKit

/-- two blocks laid one behind the other -/
theorem two_snap (w : World) (o p : Obj) : Below w.heap.size w ((w.alloc o).alloc p) ∧ ((w.alloc o).alloc p).heap.size = w.heap.size + 2 ∧ ((w.alloc o).alloc p).heap[w.heap.size]? = some o ∧ ((w.alloc o).alloc p).heap[w.heap.size + 1]? = some p := by
  refine ⟨below_more (below_more (Below.refl _ w) _) _, by simp [World.alloc, -World.alloc_eq], ?_, ?_⟩
  · show ((w.heap.push o).push p)[w.heap.size]? = some o
    rw [Array.getElem?_push, if_neg (by simp), Array.getElem?_push, if_pos rfl]
  · show ((w.heap.push o).push p)[w.heap.size + 1]? = some p
    rw [Array.getElem?_push, if_pos (by simp)]

set_option maxRecDepth 1000000 in
set_option maxHeartbeats 1000000 in
theorem eqSnap_same (ix tm : Int) (ao bo : Option Addr) (zs : List Int) (cap cap' : Nat) (bd : ByteArray) (hl : zs.length ≤ 140737488355328) (w : World) (ha : IntsAt w ao zs) (hb : IntsAt w bo zs) :
    Calls Tryz.prog 17 #[snapV ix tm (.slice ao zs.length cap) bd, snapV ix tm (.slice bo zs.length cap') bd] w fun e w' => e = .returned (.bool true) ∧ Below w.heap.size w w' := by
  have C := hid (fun w ha hb => eqIntS_same ao bo zs cap cap' hl w ha hb)
  have H2 := hid (two_snap w (.cells #[.int .i64 ix, .int .i64 tm, .slice ao zs.length cap, .string bd] 53) (.cells #[.int .i64 ix, .int .i64 tm, .slice bo zs.length cap', .string bd] 53))
  have HA := hid ha
  have HB := hid hb
  clear ha hb
  go_enter Tryz.func17, Tryz.ntmps17
  go_wp2_with fail
  refine (C.out _ (HA.out.on H2.out.1) (HB.out.on H2.out.1)).mono ?_
  rintro e w1 ⟨rfl, b1⟩
  obtain ⟨hb0, hs0, hx0, hx1⟩ := H2.out
  rw [hs0] at b1
  have k0 : BlockIs w1 w.heap.size 53 [.int .i64 ix, .int .i64 tm, .slice ao zs.length cap, .string bd] := BlockIs.on (show BlockIs _ _ _ _ from hx0) b1 (by omega)
  have k1 : BlockIs w1 (w.heap.size + 1) 53 [.int .i64 ix, .int .i64 tm, .slice bo zs.length cap', .string bd] := BlockIs.on (show BlockIs _ _ _ _ from hx1) b1 (by omega)
  have c03 := k0.cell (j := 3) rfl
  have c13 := k1.cell (j := 3) rfl
  have B1 := hid (hb0.trans (b1.mono (by omega)))
  clear b1 C H2 hb0 hs0 hx0 hx1 k0 k1
  go_wp2
  go_ret
  exact ⟨rfl, B1.out⟩
end Go.Proofs.YtihgkocfgjihhaaGreatDoor
