/-
  The walk of laws.toRing: a ring is laid anew, in memory of its own.
-/
import Derived.Test.YtjcphahbplmmdaaJoint2
import Derived.Test.YtjcphahbplmmdaaJoint1
namespace Go.Proofs.Ytjcphahbplmmdaa
open Go.RowKit

/-- three blocks laid one behind the other -/
theorem three_ring (w : World) (o p q : Obj) : Below w.heap.size w (((w.alloc o).alloc p).alloc q) ∧ (((w.alloc o).alloc p).alloc q).heap.size = w.heap.size + 3 ∧ (((w.alloc o).alloc p).alloc q).heap[w.heap.size]? = some o ∧ (((w.alloc o).alloc p).alloc q).heap[w.heap.size + 1]? = some p ∧ (((w.alloc o).alloc p).alloc q).heap[w.heap.size + 1 + 1]? = some q := by
  refine ⟨(four_log w o p q).1, ?_, (four_log w o p q).2⟩
  simp [World.alloc, -World.alloc_eq]

set_option maxRecDepth 1000000 in
set_option maxHeartbeats 1000000 in
theorem toRing_any (s t : Int) (ao : Option Addr) (l : List SlotD) (cap : Nat) (hl : l.length ≤ 1048576) (w : World) (ha : SlotsAt w ao l) :
    Calls Try.prog 27 #[.agg #[.slice ao l.length cap, .int .i64 s, .int .i64 t]] w fun e w' => ∃ g, w.heap.size ≤ g ∧ e = .returned (.agg #[.slice (some ⟨g, 0, none⟩) l.length l.length, .int .i64 s, .int .i64 t]) ∧ BlockIs w' g 52 (slotCells l) ∧ Below w.heap.size w w' := by
  have C := hid (fun w ha => toSlotS_any ao l cap hl w ha)
  have HA := hid ha
  clear ha
  have H3 := hid (three_ring w (.cells #[.slice ao l.length cap, .int .i64 s, .int .i64 t] 43) (.cells #[.slice none 0 0, .int .i64 0, .int .i64 0] 26) (.cells #[.slice none 0 0, .int .i64 0, .int .i64 0] 26))
  go_enter Try.func27, Try.ntmps27
  go_wp2_with fail
  refine (C.out _ (HA.out.on H3.out.1)).mono ?_
  rintro e w1 ⟨rfl, hbl, b1⟩
  obtain ⟨hb0, hs0, hx0, hx1, hx2⟩ := H3.out
  rw [hs0] at hbl b1 ⊢
  have k0 : BlockIs w1 w.heap.size 43 [.slice ao l.length cap, .int .i64 s, .int .i64 t] := BlockIs.on (show BlockIs _ _ _ _ from hx0) b1 (by omega)
  have k1 : BlockIs w1 (w.heap.size + 1) 26 [.slice none 0 0, .int .i64 0, .int .i64 0] := BlockIs.on (show BlockIs _ _ _ _ from hx1) b1 (by omega)
  have k2 : BlockIs w1 (w.heap.size + 1 + 1) 26 [.slice none 0 0, .int .i64 0, .int .i64 0] := BlockIs.on (show BlockIs _ _ _ _ from hx2) b1 (by omega)
  have c01 := k0.cell (j := 1) rfl
  have c02 := k0.cell (j := 2) rfl
  have c10 := k1.cell (j := 0) rfl
  have c11 := k1.cell (j := 1) rfl
  have c12 := k1.cell (j := 2) rfl
  have c20 := k2.cell (j := 0) rfl
  have c21 := k2.cell (j := 1) rfl
  have c22 := k2.cell (j := 2) rfl
  have f10 := k1.thaw 0
  have f11 := k1.thaw 1
  have f12 := k1.thaw 2
  have f20 := k2.thaw 0
  have f21 := k2.thaw 1
  have f22 := k2.thaw 2
  have B1 := hid (hb0.trans (b1.mono (by omega)))
  have HB := hid hbl
  clear hbl b1 C H3 hb0 hs0 hx0 hx1 hx2 k0 k1 k2
  go_wp2
  refine bodyPost_ret (v := .agg #[.slice (some ⟨w.heap.size + 3, 0, none⟩) l.length l.length, .int .i64 s, .int .i64 t]) (by simp [results, Try.results27, go_sem, c10, c11, c12]) rfl ⟨_, Nat.le_add_right _ _, rfl, ?_, ?_⟩
  · exact (((((HB.out.far (by omega) _).far (by omega) _).far (by omega) _).far (by omega) _).far (by omega) _).far (by omega) _
  · exact (((((B1.out.setCell (by show _ ≤ _ + 1 + 1; omega) _).setCell (by show _ ≤ _ + 1 + 1; omega) _).setCell (by show _ ≤ _ + 1 + 1; omega) _).setCell (by show _ ≤ _ + 1; omega) _).setCell (by show _ ≤ _ + 1; omega) _).setCell (by show _ ≤ _ + 1; omega) _

theorem toRing_o (s t : Int) (ao : Option Addr) (l : List SlotD) (cap : Nat) (hl : l.length ≤ 1048576) (w : World) (ha : SlotsAt w ao l) :
    Calls Try.prog 27 #[.agg #[.slice ao l.length cap, .int .i64 s, .int .i64 t]] w fun e w' => ∃ va vc, e = .returned (.agg #[.slice va l.length vc, .int .i64 s, .int .i64 t]) ∧ l.length ≤ vc ∧ OwnAt w' 52 (slotCells l) l.length va w.heap.size w'.heap.size ∧ Below w.heap.size w w' := by
  refine (toRing_any s t ao l cap hl w ha).mono ?_
  rintro e w' ⟨g, hg, rfl, hk, hb⟩
  exact ⟨_, _, rfl, Nat.le_refl _, Or.inr ⟨g, [], rfl, hg, hk.lt, by rw [List.append_nil]; exact hk⟩, hb⟩
end Go.Proofs.Ytjcphahbplmmdaa
