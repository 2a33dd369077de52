/-
  The walk of laws.eqRing: two rings that are alike are found alike.
-/
import Derived.Test.YtjcphahbplmmdaaEqSlot
namespace Go.Proofs.Ytjcphahbplmmdaa
open Go.RowKit Go.Sort

set_option maxRecDepth 1000000 in
theorem eqRing_same (s t : Int) (ao bo : Option Addr) (l : List SlotD) (cap cap' : Nat) (hl : l.length ≤ 140737488355328) (w : World) (ha : SlotsAt w ao l) (hb : SlotsAt w bo l) :
    Calls Try.prog 23 #[.agg #[.slice ao l.length cap, .int .i64 s, .int .i64 t], .agg #[.slice bo l.length cap', .int .i64 s, .int .i64 t]] w fun e w' => e = .returned (.bool true) ∧ Below w.heap.size w w' := by
  have C := hid (fun w ha hb => eqSlotS_same ao bo l cap cap' hl w ha hb)
  obtain ⟨W0, hW0⟩ : ∃ W0, (w.alloc (.cells #[.slice ao l.length cap, .int .i64 s, .int .i64 t] 26)).alloc (.cells #[.slice bo l.length cap', .int .i64 s, .int .i64 t] 26) = W0 := ⟨_, rfl⟩
  have HBB := hid (below_more (below_more (Below.refl w.heap.size w) (.cells #[.slice ao l.length cap, .int .i64 s, .int .i64 t] 26)) (.cells #[.slice bo l.length cap', .int .i64 s, .int .i64 t] 26))
  have K0 : BlockIs W0 w.heap.size 26 [.slice ao l.length cap, .int .i64 s, .int .i64 t] := by
    rw [← hW0]
    show ((w.heap.push _).push _)[w.heap.size]? = some _
    rw [Array.getElem?_push, if_neg (by simp), Array.getElem?_push, if_pos rfl]
  have K1 : BlockIs W0 (w.heap.size + 1) 26 [.slice bo l.length cap', .int .i64 s, .int .i64 t] := by
    rw [← hW0]
    show ((w.heap.push _).push _)[w.heap.size + 1]? = some _
    rw [Array.getElem?_push, if_pos (by simp)]
  rw [hW0] at HBB
  have HA := hid (ha.on HBB.out)
  have HB := hid (hb.on HBB.out)
  clear ha hb
  have HK0 := hid K0
  have HK1 := hid K1
  have c0 := K0.cell (j := 0) rfl
  have c1 := K0.cell (j := 1) rfl
  have c2 := K0.cell (j := 2) rfl
  have d0 := K1.cell (j := 0) rfl
  have d1 := K1.cell (j := 1) rfl
  have d2 := K1.cell (j := 2) rfl
  clear K0 K1
  go_enter Try.func23, Try.ntmps23
  go_wp2_with fail
  refine (C.out _ HA.out HB.out).mono ?_
  rintro e w1 ⟨rfl, b1⟩
  have J0 := HK0.out.on b1 HK0.out.lt
  have J1 := HK1.out.on b1 HK1.out.lt
  have c1 := J0.cell (j := 1) rfl
  have c2 := J0.cell (j := 2) rfl
  have d1 := J1.cell (j := 1) rfl
  have d2 := J1.cell (j := 2) rfl
  have B1 := hid (below_via HBB.out b1)
  clear b1 C J0 J1
  go_wp2
  go_ret
  exact ⟨rfl, B1.out⟩
end Go.Proofs.Ytjcphahbplmmdaa
