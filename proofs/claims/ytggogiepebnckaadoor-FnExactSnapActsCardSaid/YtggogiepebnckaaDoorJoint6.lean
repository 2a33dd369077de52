/-
  The walk of laws.eqSnap.
-/
import Derived.Test.YtggogiepebnckaaDoorJoint4
import Derived.Test.YtggogiepebnckaaDoorJoint1
namespace Go.Proofs.YtggogiepebnckaaDoor
open Go.RowKit

/-- two blocks laid one behind the other -/
theorem two_snap (w : World) (o p : Obj) : Below w.heap.size w ((w.alloc o).alloc p) ∧ ((w.alloc o).alloc p).heap.size = w.heap.size + 2 ∧ ((w.alloc o).alloc p).heap[w.heap.size]? = some o ∧ ((w.alloc o).alloc p).heap[w.heap.size + 1]? = some p := by
  refine ⟨below_more (below_more (Below.refl _ w) _) _, by simp [World.alloc, -World.alloc_eq], ?_, ?_⟩
  · show ((w.heap.push o).push p)[w.heap.size]? = some o
    rw [Array.getElem?_push, if_neg (by simp), Array.getElem?_push, if_pos rfl]
  · show ((w.heap.push o).push p)[w.heap.size + 1]? = some p
    rw [Array.getElem?_push, if_pos (by simp)]

set_option maxRecDepth 1000000 in
set_option maxHeartbeats 1000000 in
theorem eqSnap_same (ix tm : Int) (ao bo : Option Addr) (zs : List Int) (cap cap' : Nat) (bd : ByteArray) (hl : zs.length ≤ 140737488355328) (w : World) (ha : IntsAt w ao zs) (hb : IntsAt w bo zs) :
    Calls Tryd.prog 9 #[snapV ix tm (.slice ao zs.length cap) bd, snapV ix tm (.slice bo zs.length cap') bd] w fun e w' => e = .returned (.bool true) ∧ Below w.heap.size w w' := by
  have C := hid (fun w ha hb => eqIntS_same ao bo zs cap cap' hl w ha hb)
  have H2 := hid (two_snap w (.cells #[.int .i64 ix, .int .i64 tm, .slice ao zs.length cap, .string bd] 24) (.cells #[.int .i64 ix, .int .i64 tm, .slice bo zs.length cap', .string bd] 24))
  have HA := hid ha
  have HB := hid hb
  clear ha hb
  go_enter Tryd.func9, Tryd.ntmps9
  go_wp2_with fail
  refine (C.out _ (HA.out.on H2.out.1) (HB.out.on H2.out.1)).mono ?_
  rintro e w1 ⟨rfl, b1⟩
  obtain ⟨hb0, hs0, hx0, hx1⟩ := H2.out
  rw [hs0] at b1
  have k0 : BlockIs w1 w.heap.size 24 [.int .i64 ix, .int .i64 tm, .slice ao zs.length cap, .string bd] := BlockIs.on (show BlockIs _ _ _ _ from hx0) b1 (by omega)
  have k1 : BlockIs w1 (w.heap.size + 1) 24 [.int .i64 ix, .int .i64 tm, .slice bo zs.length cap', .string bd] := BlockIs.on (show BlockIs _ _ _ _ from hx1) b1 (by omega)
  have c03 := k0.cell (j := 3) rfl
  have c13 := k1.cell (j := 3) rfl
  have B1 := hid (hb0.trans (b1.mono (by omega)))
  clear b1 C H2 hb0 hs0 hx0 hx1 k0 k1
  go_wp2
  go_ret
  exact ⟨rfl, B1.out⟩
end Go.Proofs.YtggogiepebnckaaDoor
