/-
  The walk of laws.toLog: a log is laid anew, in memory of its own.
-/
import Derived.Test.YteceaohhnjlmbaaJoint12
import Derived.Test.YteceaohhnjlmbaaJoint4
import Derived.OwnWalk
namespace Go.Proofs.Yteceaohhnjlmbaa
open Go.RowKit

/-- three blocks laid one behind the other -/
theorem three_log (w : World) (o p q : Obj) : Below w.heap.size w (((w.alloc o).alloc p).alloc q) ∧ (((w.alloc o).alloc p).alloc q).heap.size = w.heap.size + 3 ∧ (((w.alloc o).alloc p).alloc q).heap[w.heap.size + 1]? = some p ∧ (((w.alloc o).alloc p).alloc q).heap[w.heap.size + 1 + 1]? = some q := by
  refine ⟨below_more (below_more (below_more (Below.refl _ w) _) _) _, ?_, ?_, ?_⟩
  · simp [World.alloc, -World.alloc_eq]
  · show (((w.heap.push o).push p).push q)[w.heap.size + 1]? = some p
    rw [Array.getElem?_push, if_neg (by simp), Array.getElem?_push, if_pos (by simp)]
  · show (((w.heap.push o).push p).push q)[w.heap.size + 1 + 1]? = some q
    rw [Array.getElem?_push, if_pos (by simp)]

set_option maxRecDepth 1000000 in
set_option maxHeartbeats 1000000 in
theorem toLog_any (s t : Int) (ao : Option Addr) (l : List EntD) (cap : Nat) (hl : l.length ≤ 1048576) (w : World) (ha : EntsAt w ao l) :
    Calls Try.prog 30 #[.agg #[.int .i64 s, .int .i64 t, .slice ao l.length cap]] w fun e w' => ∃ g, w.heap.size ≤ g ∧ e = .returned (.agg #[.int .i64 s, .int .i64 t, .slice (some ⟨g, 0, none⟩) l.length l.length]) ∧ BlockIs w' g 74 (entCells l) ∧ Below w.heap.size w w' := by
  have C := hid (fun w ha => toEntryS_any ao l cap hl w ha)
  have HA := hid ha
  clear ha
  have H3 := hid (three_log w (.cells #[.int .i64 s, .int .i64 t, .slice ao l.length cap] 25) (.cells #[.int .i64 0, .int .i64 0, .slice none 0 0] 33) (.cells #[.int .i64 s, .int .i64 t, .slice none 0 0] 33))
  go_enter Try.func30, Try.ntmps30
  go_wp2_with fail
  refine (C.out _ (HA.out.on H3.out.1)).mono ?_
  rintro e w1 ⟨rfl, hbl, b1⟩
  obtain ⟨hb0, hs0, hx1, hx2⟩ := H3.out
  rw [hs0] at hbl b1 ⊢
  have k1 : BlockIs w1 (w.heap.size + 1) 33 [.int .i64 0, .int .i64 0, .slice none 0 0] := BlockIs.on (show BlockIs _ _ _ _ from hx1) b1 (by omega)
  have k2 : BlockIs w1 (w.heap.size + 1 + 1) 33 [.int .i64 s, .int .i64 t, .slice none 0 0] := BlockIs.on (show BlockIs _ _ _ _ from hx2) b1 (by omega)
  have c10 := k1.cell (j := 0) rfl
  have c11 := k1.cell (j := 1) rfl
  have c12 := k1.cell (j := 2) rfl
  have c20 := k2.cell (j := 0) rfl
  have c21 := k2.cell (j := 1) rfl
  have c22 := k2.cell (j := 2) rfl
  have f10 := k1.thaw 0
  have f11 := k1.thaw 1
  have f12 := k1.thaw 2
  have f2 := k2.thaw 2
  have B1 := hid (hb0.trans (b1.mono (by omega)))
  have HB := hid hbl
  clear hbl b1 C H3 hb0 hs0 hx1 hx2 k1 k2
  go_wp2
  refine bodyPost_ret (v := .agg #[.int .i64 s, .int .i64 t, .slice (some ⟨w.heap.size + 3, 0, none⟩) l.length l.length]) (by simp [results, Try.results30, go_sem, c10, c11, c12]) rfl ⟨_, Nat.le_add_right _ _, rfl, ?_, ?_⟩
  · exact (((HB.out.far (by omega) _).far (by omega) _).far (by omega) _).far (by omega) _
  · exact (((B1.out.setCell (by show _ ≤ _ + 1 + 1; omega) _).setCell (by show _ ≤ _ + 1; omega) _).setCell (by show _ ≤ _ + 1; omega) _).setCell (by show _ ≤ _ + 1; omega) _
end Go.Proofs.Yteceaohhnjlmbaa
