/-
  The walk of spec.LoseDisk at a disk that is not right.
-/
import Derived.Test.YthkfgiilbkjojabJoint26
namespace Go.Proofs.Ythkfgiilbkjojab
open Go.RowKit

set_option maxRecDepth 1000000 in
theorem specLoseDisk_no (ao : Option Addr) (l : List FileD) (cap : Nat) (lo : Option Addr) (n lcap : Nat) (hl : l.length ≤ 16777216) (hd : diskOk l = false) (w : World) (ha : FilesAt w ao l) :
    Calls Try.prog 25 #[.agg #[.slice ao l.length cap], .slice lo n lcap] w fun e w' => e = .returned (.tuple #[.agg #[.slice none 0 0], .bool false]) ∧ Below w.heap.size w w' := by
  have HA := hid ha
  have hx1 : BlockIs ((w.alloc (.cells #[.slice ao l.length cap] 31)).alloc (.cells #[.slice none 0 0] 31)) (w.heap.size + 1) 31 [.slice none 0 0] := by
    have := heap_alloc_new (w.alloc (.cells #[.slice ao l.length cap] 31)) (.cells #[.slice none 0 0] 31)
    rw [show (w.alloc (.cells #[.slice ao l.length cap] 31)).heap.size = w.heap.size + 1 by simp [World.alloc, -World.alloc_eq]] at this
    exact this
  have HX := hid hx1
  have HB := hid (below_more (below_more (Below.refl w.heap.size w) (.cells #[.slice ao l.length cap] 31)) (.cells #[.slice none 0 0] 31))
  have C := hid (fun w ha => specDiskOk_any ao l cap hl w ha)
  rw [hd] at C
  clear ha hd hx1
  go_enter Try.func25, Try.ntmps25
  go_wp2_with fail
  refine (C.out _ (HA.out.on HB.out)).mono ?_
  rintro e w1 ⟨rfl, b1⟩
  have B1 := hid ((below_via HB.out b1).setCell (p := ⟨w.heap.size + 1, 0, none⟩) (by show _ ≤ _ + 1; omega) (.slice none 0 0))
  have X1 := HX.out.on b1 HX.out.lt
  have c1 := X1.cell (j := 0) rfl
  have f1 := X1.thaw 0
  clear b1 C HB HX X1
  go_wp2
  refine bodyPost_ret (v := .tuple #[.agg #[.slice none 0 0], .bool false]) (by simp [results, Try.results25, go_sem, c1]) rfl ⟨rfl, B1.out⟩
end Go.Proofs.Ythkfgiilbkjojab
