/-
  The walk of spec.DrawRing: a drawn right ring, in memory of its own.
-/
import Derived.Test.YtjcphahbplmmdaaJoint21
import Derived.Test.YtjcphahbplmmdaaJoint22
import Derived.Test.YtjcphahbplmmdaaJoint23
namespace Go.Proofs.Ytjcphahbplmmdaa
open Go.RowKit

set_option maxRecDepth 1000000 in
set_option maxHeartbeats 1000000 in
theorem drawRing_any (ao : Option Addr) (len cap : Nat) (hlen : len ≤ 1048576) (hcap : len ≤ cap) (w : World) (hr : Bytes w ao len) :
    Calls Try.prog 10 #[.slice ao len cap] w fun e w' => ∃ (h t : Nat) (q : List ByteArray) (l : List SlotD) (va : Option Addr) (vc : Nat), e = .returned (.agg #[.slice va l.length vc, .int .i64 h, .int .i64 t]) ∧ RingIs l h t q ∧ OwnAt w' 52 (slotCells l) l.length va w.heap.size w'.heap.size ∧ Below w.heap.size w w' := by
  have be := below_more (Below.refl w.heap.size w) (.cells #[.slice none 0 0, .int .i64 0, .int .i64 0] 26)
  have hx1 : BlockIs (w.alloc (.cells #[.slice none 0 0, .int .i64 0, .int .i64 0] 26)) w.heap.size 26 [.slice none 0 0, .int .i64 0, .int .i64 0] := heap_alloc_new w _
  have hr2 := bytes_on hr be
  obtain ⟨W0, hW0⟩ : ∃ W, w.alloc (.cells #[.slice none 0 0, .int .i64 0, .int .i64 0] 26) = W := ⟨_, rfl⟩
  rw [hW0] at be hx1 hr2
  have BE := hid be
  have X0 := hid hx1
  have HR := hid hr2
  have hX0 := hx1.lt
  clear be hx1 hr2 hr
  go_enter Try.func10, Try.ntmps10
  go_wp2_with fail
  refine (l01New_any ao len cap hlen hcap W0 HR.out).mono ?_
  rintro e w1 ⟨rfl, k1, b1⟩
  have CR := hid (l09Ring_any W0.heap.size w1 k1)
  have B1 := hid b1
  clear k1 b1
  go_wp2_with fail
  refine CR.out.mono ?_
  rintro e w2 ⟨h, t, q, l, va, vc, rfl, hrr, ho, _, g2⟩
  have b2 := below_cur B1.out g2
  have x2 := X0.out.on b2 X0.out.lt
  have c0 := x2.cell (j := 0) rfl
  have c1 := x2.cell (j := 1) rfl
  have c2 := x2.cell (j := 2) rfl
  have f0 := x2.thaw 0
  have f1 := x2.thaw 1
  have f2 := x2.thaw 2
  have hb1s := B1.out.size
  have BL := hid ((((below_via BE.out b2).setCell (p := ⟨w.heap.size, 0, none⟩) (Nat.le_refl _) (.slice va l.length vc)).setCell (p := ⟨w.heap.size, 1, none⟩) (Nat.le_refl _) (.int .i64 h)).setCell (p := ⟨w.heap.size, 2, none⟩) (Nat.le_refl _) (.int .i64 t))
  have OL := hid (((ho.far (b := w.heap.size) (j := 0) (by omega) (.slice va l.length vc)).far (b := w.heap.size) (j := 1) (by omega) (.int .i64 h)).far (b := w.heap.size) (j := 2) (by omega) (.int .i64 t) |>.down (show w.heap.size ≤ w1.heap.size + 1 by omega) (Nat.le_refl _))
  have HQ := hid hrr
  clear ho g2 b2 x2 CR hrr
  go_wp2
  refine bodyPost_ret (v := .agg #[.slice va l.length vc, .int .i64 h, .int .i64 t]) (by simp [results, Try.results10, go_sem, c0, c1, c2]) rfl ⟨h, t, q, l, va, vc, rfl, HQ.out, OL.out, BL.out⟩
end Go.Proofs.Ytjcphahbplmmdaa
