/-
  The walk of strings.Clone: the text itself, in new memory.
-/
import Derived.Test.YtoanhjjigbjecaaGreatDoorRows
import Derived.Test.YtoanhjjigbjecaaGreatDoorJoint1
import Derived.Lib.UnsafeStr
import Derived.Lib.BufferWrite
import Derived.Laws.CopyOwn
import Derived.WalkKit
namespace Go.Proofs.YtoanhjjigbjecaaGreatDoor
open Go.RowKit

theorem clone_info5 : (Tryz.prog.info? 5).map (fun i => (i.zero, i.size, i.bytes)) = some (some (.int .u8 0), 1, 1) := by kernel_rfl

theorem clone_mem {w w1 : World} {s : ByteArray} (h0 : 0 < s.size) (hm : s.size ≤ 140737488355328) {zs : List Value} (hown : w1.ownsRow w.heap.size 5 1 (.slice (some ⟨w.heap.size, 0, none⟩) s.size s.size) s.size zs) (hg : w.grownBy w1 none) :
    ∃ W2 W3, (∀ ty, (Builtin.copy_ #[22, 9] ty #[.slice (some ⟨w.heap.size, 0, none⟩) s.size s.size, .string s]).run Tryz.prog w1 = .ok (goInt s.size) W2) ∧
      (∀ ty, (Builtin.unsafeString_ #[148, 3] ty #[.pointer (some ⟨w.heap.size, 0, none⟩), .int .i64 s.size]).run Tryz.prog W2 = .ok (.string s) W3) ∧ Below w.heap.size w W3 := by
  obtain ⟨h1, h2⟩ := hown
  rcases h2 with ⟨hv, hn⟩ | ⟨g, cap, cur, hv, hgb, hh, hle, hmx, hsz, hx⟩
  · cases hv
  · simp only [Value.slice.injEq, Option.some.injEq, Addr.mk.injEq, and_true, true_and] at hv
    obtain ⟨rfl, rfl⟩ := hv
    simp only [Nat.mul_one] at hsz
    have hc := fun ty => Lib.run_copy_row_string (P := Tryz.prog) w1 22 9 ty 5 w.heap.size 0 s.size s.size s cur 5 Tryz.underlying22 (by kernel_rfl) hh (Nat.le_refl _) (by omega)
    have ea : (cur.toList.take 0 ++ Lib.byteCells s.data.toList ++ cur.toList.drop (0 + s.size)).toArray = (Lib.byteCells s.data.toList).toArray := by
      rw [List.drop_of_length_le (by simp; omega)]
      simp
    rw [ea] at hc
    have hb2 : Below w.heap.size w (w1.setRow w.heap.size (Lib.byteCells s.data.toList).toArray) := below_setRow ((Below.refl _ _).grown hg (Nat.le_refl _) (fun k h => by cases h)) (Nat.le_refl _) _
    have hh2 : (w1.setRow w.heap.size (Lib.byteCells s.data.toList).toArray).heap[w.heap.size]? = some (.cells (Lib.byteCells s.data.toList).toArray 5 (0, 0)) := by
      simp only [World.setRow]
      rw [Array.getElem?_modify, if_pos rfl, hh]
      rfl
    have hlen : s.data.toList.length = s.size := by simp
    have hbl : (Lib.byteCells s.data.toList).length = s.size := by rw [Lib.byteCells_length, hlen]
    have hown2 : (w1.setRow w.heap.size (Lib.byteCells s.data.toList).toArray).ownsRow w.heap.size 5 1 (.slice (some ⟨w.heap.size, 0, none⟩) s.size s.size) s.size (Lib.byteCells s.data.toList) :=
      ⟨by omega, Or.inr ⟨_, _, _, rfl, Nat.le_refl _, hh2, Nat.le_refl _, hmx, by simp [hbl], by rw [List.take_of_length_le (by simp [hbl])]⟩⟩
    have hu := fun ty => Lib.run_unsafeString_row (P := Tryz.prog) (w1.setRow w.heap.size (Lib.byteCells s.data.toList).toArray) 148 3 ty 5 Tryz.underlying148 (by kernel_rfl) w.heap.size s.size
      (by simp [World.shape?, hh2, Lib.byteCells_length]) s.data.toList (by intro e; rw [e] at hlen; simp at hlen; omega) (by omega) (by omega)
      (fun j x hj => hown2.cells rfl j _ (by simp [Lib.byteCells, hj]))
    rw [hlen] at hu
    exact ⟨_, _, hc, hu, Lib.below_freeze hb2 (Nat.le_refl _) _⟩

set_option maxRecDepth 1000000 in
theorem liteClone_any (s : ByteArray) (hm : s.size ≤ 140737488355328) (w : World) :
    Calls Tryz.prog 98 #[.string s] w fun e w' => e = .returned (.string s) ∧ Below w.heap.size w w' := by
  by_cases h0 : s.size = 0
  · have hs : s = ByteArray.empty := by
      obtain ⟨⟨l⟩⟩ := s
      cases l with | nil => rfl | cons a l => simp [ByteArray.size] at h0
    subst hs
    go_enter Tryz.func98, Tryz.ntmps98
    go_wp2
    go_ret
    exact ⟨rfl, Below.refl _ _⟩
  · obtain ⟨i0, hi, hz0, hz1, hz2⟩ := info_parts clone_info5
    have hp : 0 < s.size := by omega
    have hp' : ((s.size : Int) == 0) = false := by rw [beq_eq_false_iff_ne]; omega
    go_enter Tryz.func98, Tryz.ntmps98
    go_wp2_with (at_make; refine wpList_make_full _ rfl (.tmp 8) (.tmp 8) 22 rfl w.heap.size 5 i0 (.int .u8 0) 1 Tryz.underlying22 hi hz0 hz1 _ _ _ _ s.size rfl rfl rfl rfl ?b2 ?b3 ?b4 ?_)
    case b2 => rw [hz2]; omega
    case b3 => unfold maxLen; omega
    case b4 => exact Nat.le_refl _
    intro w1 hown hgrow
    obtain ⟨W2, W3, hc, hu, hb⟩ := clone_mem hp hm hown hgrow
    clear hown hgrow
    go_wp2
    go_ret
    exact ⟨rfl, hb⟩

theorem clone_any (s : ByteArray) (hm : s.size ≤ 140737488355328) (w : World) :
    Calls Tryz.prog 71 #[.string s] w fun e w' => e = .returned (.string s) ∧ Below w.heap.size w w' := by
  go_enter Tryz.func71, Tryz.ntmps71
  go_wp2_with (go_at_call 98; refine (liteClone_any s hm _).mono ?_; rintro e w' ⟨rfl, hb⟩)
  go_ret
  exact ⟨rfl, hb⟩
end Go.Proofs.YtoanhjjigbjecaaGreatDoor
